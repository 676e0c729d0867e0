/- The program's bodies, and packets (mkps.py writes this text). -/
import Derived.Test.YtjncbpmigpocbaaPkR
namespace Go.Proofs.Ytjncbpmigpocbaa
open Go Go.RowKit
set_option maxRecDepth 100000

theorem leg_end_long {kind : Nat} {b : List UInt8} (h3 : kind = 3) (h : 20000 < b.length) : leg kind b = (6, [], []) := by
  subst h3
  have hK : legK 3 = 0 := rfl
  have hN : legN 3 b = b.length := rfl
  unfold leg
  rw [hK, hN, if_neg (by omega), if_pos h]
theorem leg_end_ok {kind : Nat} {b : List UInt8} (h3 : kind = 3) (h : b.length ≤ 20000) : leg kind b = (0, [] ++ b.take b.length, b.drop b.length) := by
  subst h3
  have hK : legK 3 = 0 := rfl
  have hN : legN 3 b = b.length := rfl
  unfold leg
  rw [hK, hN, if_neg (by omega), if_neg (by omega), if_neg (by omega), List.drop_zero, Nat.zero_add, List.nil_append]
theorem leg_no {kind : Nat} {b : List UInt8} (h : b.length < legK kind) : leg kind b = (2, [], []) := by unfold leg; rw [if_pos h]
theorem leg_long {kind : Nat} {b : List UInt8} (h1 : legK kind ≤ b.length) (h : 20000 < legN kind b) : leg kind b = (6, [], []) := by unfold leg; rw [if_neg (by omega), if_pos h]
theorem leg_few {kind : Nat} {b : List UInt8} (h1 : legK kind ≤ b.length) (h2 : legN kind b ≤ 20000) (h : (b.drop (legK kind)).length < legN kind b) : leg kind b = (2, [], []) := by
  rw [List.length_drop] at h
  unfold leg; rw [if_neg (by omega), if_neg (by omega), if_pos (by omega)]
theorem leg_yes {kind : Nat} {b : List UInt8} (h1 : legK kind ≤ b.length) (h2 : legN kind b ≤ 20000) (h : legN kind b ≤ (b.drop (legK kind)).length) : leg kind b = (0, [] ++ (b.drop (legK kind)).take (legN kind b), (b.drop (legK kind)).drop (legN kind b)) := by
  rw [List.length_drop] at h
  unfold leg; rw [if_neg (by omega), if_neg (by omega), if_neg (by omega), List.nil_append, List.drop_drop]
theorem frs_not {may : Bool} {body b : List UInt8} (hk : (tkn b).2.1 ≠ 0) (h : (tkn b).2.2 = false ∨ (may = true ∧ (body.length ≠ 0 ∨ 512 ≤ (tkn b).1))) : ¬ ((tkn b).2.1 = 0 ∨ ((tkn b).2.2 = true ∧ (may = false ∨ (body = [] ∧ (tkn b).1 < 512)))) := by
  rintro (q | ⟨q, q2⟩)
  · exact hk q
  · rcases h with h | ⟨h1, h2⟩
    · rw [h] at q; cases q
    · rcases q2 with q2 | ⟨q3, q4⟩
      · rw [h1] at q2; cases q2
      · rcases h2 with h2 | h2
        · exact h2 (by rw [q3]; rfl)
        · omega
theorem frs_few2 {may : Bool} {body b : List UInt8} (h : ¬ ((tkn b).2.1 = 0 ∨ ((tkn b).2.2 = true ∧ (may = false ∨ (body = [] ∧ (tkn b).1 < 512))))) (h2 : body.length + (tkn b).1 ≤ 20000) (h3 : (b.drop (tkn b).2.1).length < (tkn b).1) : frs may body b = (2, [], []) := by
  rw [List.length_drop] at h3
  exact frs_few h (by omega) (by omega)
theorem frs_more2 {may : Bool} {body b : List UInt8} (h : ¬ ((tkn b).2.1 = 0 ∨ ((tkn b).2.2 = true ∧ (may = false ∨ (body = [] ∧ (tkn b).1 < 512))))) (h2 : body.length + (tkn b).1 ≤ 20000) (h3 : (tkn b).1 ≤ (b.drop (tkn b).2.1).length) (h4 : (tkn b).2.2 = true) : frs may body b = frs may (body ++ (b.drop (tkn b).2.1).take (tkn b).1) ((b.drop (tkn b).2.1).drop (tkn b).1) := by
  have := tkn_le b
  rw [List.length_drop] at h3
  rw [frs_more h (by omega) (by omega) h4, List.drop_drop]
theorem frs_last2 {may : Bool} {body b : List UInt8} (h : ¬ ((tkn b).2.1 = 0 ∨ ((tkn b).2.2 = true ∧ (may = false ∨ (body = [] ∧ (tkn b).1 < 512))))) (h2 : body.length + (tkn b).1 ≤ 20000) (h3 : (tkn b).1 ≤ (b.drop (tkn b).2.1).length) (h4 : (tkn b).2.2 = false) : frs may body b = (0, body ++ (b.drop (tkn b).2.1).take (tkn b).1, (b.drop (tkn b).2.1).drop (tkn b).1) := by
  have := tkn_le b
  rw [List.length_drop] at h3
  rw [frs_last h (by omega) (by omega) h4, List.drop_drop]
theorem part_less {b : List UInt8} (hk : (tkn b).2.1 ≠ 0) : ((b.drop (tkn b).2.1).drop (tkn b).1).length < b.length := by
  have := tkn_zero hk
  rw [List.length_drop, List.length_drop]; omega
theorem body_le {body b : List UInt8} {n : Nat} (h : body.length + n ≤ 20000) : (body ++ b.take n).length ≤ 20000 := by
  rw [List.length_append, List.length_take]; omega

set_option maxHeartbeats 8000000 in
theorem leg_c (g c : Nat) (A : Option Addr) (b : List UInt8) (hA : Off A b.length [g]) (hbig : b.length ≤ 4398046511104) (kind : Nat) (hk : kind < 4) : Does Try.prog 28 #[(.pointer (some ⟨g, 0, none⟩)), (.int .u64 (((kind) : Nat) : Int))] [bl g 43 #[.slice A b.length c]] (fun w => Vu cByte w A b.length c b) (fun v E' => BodyAt g A c b (leg kind b) v E') := by
  refine does_of (fn := Try.f28) Try.func28 rfl Try.ntmps28 (Nat.le_of_ble_eq_true rfl) rfl ?_
  intro w0 hH hR
  have hcap := hR.cap
  refine cxSeq ?_
  refine cxReg ?_
  refine pxV (v := (.slice none 0 0)) (fun _ _ hF => opAssign rfl rfl) rfl (fun _ _ => rfl) (kA rfl) (by decide) ?_
  refine pxV (v := (.int .i64 0)) (fun _ _ hF => opAssign rfl rfl) rfl (fun _ _ => rfl) (kM [false, true, true] rfl rfl) (by decide) ?_
  refine pxEnd ?_
  refine qxThen ?_
  refine cxSeq ?_
  refine cxSeq ?_
  refine cxReg ?_
  refine pxV (v := (.int .u64 (((kind) : Nat) : Int))) (fun _ _ hF => opMove rfl (hF.ev 2 rfl)) rfl (fun _ _ => rfl) (kM [false, true, true] rfl rfl) (by decide) ?_
  refine pxV (v := (.bool (decide (kind = 3)))) (fun _ _ hF => opEqI rfl (hF.ev 0 rfl) rfl (dc (by omega))) rfl (fun _ _ => rfl) (kM [false, true, true] rfl rfl) (by decide) ?_
  refine pxEnd ?_
  refine qxThen ?_
  refine cxP 0 rfl rfl (fun hc1 => ?_) (fun hc1 => ?_)
  · refine cxSeq ?_
    rcases (show (20000 < b.length) ∨ (b.length ≤ 20000 ∧ b.length ≤ b.length) by omega) with hl2 | ⟨hl2, hf3⟩
    · refine cxReg ?_
      refine pxV (v := (.pointer (some ⟨g, 0, none⟩))) (fun _ _ hF => opMove rfl (hF.ev 1 rfl)) rfl (fun _ _ => rfl) (kM [false, true, false] rfl rfl) (by decide) ?_
      refine pxV (v := (.pointer (some ⟨g, 0, none⟩))) (fun _ _ hF => opMove rfl (hF.ev 1 rfl)) rfl (fun _ _ => rfl) (kM [true, false] rfl rfl) (by decide) ?_
      refine pxV (v := (.pointer (some ⟨g, 0, none⟩))) (fun _ _ hF => opNilCheck rfl (hF.ev 0 rfl)) rfl (fun _ _ => rfl) (kM [false, true] rfl rfl) (by decide) ?_
      refine pxV (v := (.pointer (some ⟨g, 0, none⟩))) (fun _ _ hF => opField (off := 0) rfl (hF.ev 0 rfl) (by kernel_rfl)) rfl (fun _ _ => rfl) (kM [false, true] rfl rfl) (by decide) ?_
      refine pxS (v := (.slice A b.length c)) (fun w => w.heap[g]? = some (.cells #[(.slice A b.length c)] 43 (0, 0))) (hH.blk 0 rfl) (fun _ _ hF hS => opLoadK hS rfl (hF.ev 0 rfl) (by kernel_rfl) rfl) rfl (fun _ _ => rfl) (kM [false, true] rfl rfl) (by decide) ?_
      refine pxV (v := (.int .i64 (((b.length) : Nat) : Int))) (fun _ _ hF => opLen (e := 5) rfl (by kernel_rfl) (hF.ev 0 rfl)) rfl (fun _ _ => rfl) (kM [false, true] rfl rfl) (by decide) ?_
      refine pxV (v := (.int .u64 (((b.length) : Nat) : Int))) (fun _ _ hF => opConvU (k' := .u64) rfl rfl (by kernel_rfl) (by kernel_rfl) (hF.ev 0 rfl) (Nat.mod_eq_of_lt (by show _ < 18446744073709551616; omega))) rfl (fun _ _ => rfl) (kM [false, true] rfl rfl) (by decide) ?_
      replace hH := HH.pad hH 1
      replace hH : HH w0 (bks ([bl g 43 #[.slice A b.length c]])) [[bl g 43 #[(.slice A b.length c)]], []] w0 := hH
      replace hH : HH w0 (bks ([bl g 43 #[.slice A b.length c]])) [([[bl g 43 #[(.slice A b.length c)]], []] : List Hl).flatten] w0 := hH.cast (by simp)
      refine pxE 0 hH rfl (fun _ hF => Does.small (ext_long g c A b none 0 ([]) ([]) (OwnT.nil cByte 5) (hH.off 0 rfl hR (by decide) hA) (Nat.zero_le _) b.length (by omega) (by rw [List.length_nil]; omega)) (fun w => opCall rfl Try.func31 rfl rfl (Evs.cons (v := (.pointer (some ⟨g, 0, none⟩))) (hF.ev 1 rfl) (Evs.cons (v := (.slice none 0 0)) rfl (Evs.cons (v := (.int .u64 (((b.length) : Nat) : Int))) (hF.ev 0 rfl) Evs.nil))) w)) (hH.vu hR (by decide) hA) rfl (fun _ _ => rfl) (kM [false, false] rfl rfl) (by decide) ?_
      clear hH
      rintro _ _ w ⟨rfl, A4, c5, rfl, hS6⟩ hH
      obtain ⟨hV7, hQ8⟩ := hS6 w0 hR
      replace hV7 : Vu cByte w0 A4 b.length c5 b := hV7
      replace hQ8 := hQ8 _ hA
      replace hH : HH w0 (bks ([bl g 43 #[.slice A b.length c]])) [[bl g 43 #[(.slice A4 b.length c5)]]] w := hH
      refine pxV (v := (.slice none 0 0)) (fun _ _ hF => opExtract rfl (hF.ev 0 rfl) rfl) rfl (fun _ _ => rfl) (kA rfl) (by decide) ?_
      refine pxV (v := (.int .i64 6)) (fun _ _ hF => opExtract rfl (hF.ev 1 rfl) rfl) rfl (fun _ _ => rfl) (kM [true, false] rfl rfl) (by decide) ?_
      refine pxV (v := (.slice none 0 0)) (fun _ _ hF => opAssign rfl (hF.ev 1 rfl)) rfl (fun _ _ => rfl) (kM [true, false] rfl rfl) (by decide) ?_
      refine pxV (v := (.int .i64 6)) (fun _ _ hF => opAssign rfl (hF.ev 1 rfl)) rfl (fun _ _ => rfl) (kM [true, false] rfl rfl) (by decide) ?_
      refine pxEnd ?_
      refine qxThen ?_
      refine cxRet ?_
      refine qxThenR ?_
      refine qxRet2 1 0 rfl rfl rfl ?_
      have he := leg_end_long hc1 hl2
      exact ⟨_, _, rfl, ⟨.slice none 0 0, _, [], (by rw [he]; first | done | rfl), rfl, (by rw [he]; exact OwnT.nil _ _), _, _, _, rfl, hS6, (by rw [he]; intro h; cases h)⟩, HH.out (HH.pad hH 1) [true, true]⟩
    · refine cxReg ?_
      refine pxV (v := (.pointer (some ⟨g, 0, none⟩))) (fun _ _ hF => opMove rfl (hF.ev 1 rfl)) rfl (fun _ _ => rfl) (kM [false, true, false] rfl rfl) (by decide) ?_
      refine pxV (v := (.pointer (some ⟨g, 0, none⟩))) (fun _ _ hF => opMove rfl (hF.ev 1 rfl)) rfl (fun _ _ => rfl) (kM [true, false] rfl rfl) (by decide) ?_
      refine pxV (v := (.pointer (some ⟨g, 0, none⟩))) (fun _ _ hF => opNilCheck rfl (hF.ev 0 rfl)) rfl (fun _ _ => rfl) (kM [false, true] rfl rfl) (by decide) ?_
      refine pxV (v := (.pointer (some ⟨g, 0, none⟩))) (fun _ _ hF => opField (off := 0) rfl (hF.ev 0 rfl) (by kernel_rfl)) rfl (fun _ _ => rfl) (kM [false, true] rfl rfl) (by decide) ?_
      refine pxS (v := (.slice A b.length c)) (fun w => w.heap[g]? = some (.cells #[(.slice A b.length c)] 43 (0, 0))) (hH.blk 0 rfl) (fun _ _ hF hS => opLoadK hS rfl (hF.ev 0 rfl) (by kernel_rfl) rfl) rfl (fun _ _ => rfl) (kM [false, true] rfl rfl) (by decide) ?_
      refine pxV (v := (.int .i64 (((b.length) : Nat) : Int))) (fun _ _ hF => opLen (e := 5) rfl (by kernel_rfl) (hF.ev 0 rfl)) rfl (fun _ _ => rfl) (kM [false, true] rfl rfl) (by decide) ?_
      refine pxV (v := (.int .u64 (((b.length) : Nat) : Int))) (fun _ _ hF => opConvU (k' := .u64) rfl rfl (by kernel_rfl) (by kernel_rfl) (hF.ev 0 rfl) (Nat.mod_eq_of_lt (by show _ < 18446744073709551616; omega))) rfl (fun _ _ => rfl) (kM [false, true] rfl rfl) (by decide) ?_
      replace hH := HH.pad hH 1
      replace hH : HH w0 (bks ([bl g 43 #[.slice A b.length c]])) [[bl g 43 #[(.slice A b.length c)]], []] w0 := hH
      replace hH : HH w0 (bks ([bl g 43 #[.slice A b.length c]])) [([[bl g 43 #[(.slice A b.length c)]], []] : List Hl).flatten] w0 := hH.cast (by simp)
      refine pxE 0 hH rfl (fun _ hF => Does.small (ext_ok g c A b none 0 ([]) ([]) (OwnT.nil cByte 5) (hH.off 0 rfl hR (by decide) hA) (Nat.zero_le _) b.length (by omega) (by rw [List.length_nil]; omega) hf3) (fun w => opCall rfl Try.func31 rfl rfl (Evs.cons (v := (.pointer (some ⟨g, 0, none⟩))) (hF.ev 1 rfl) (Evs.cons (v := (.slice none 0 0)) rfl (Evs.cons (v := (.int .u64 (((b.length) : Nat) : Int))) (hF.ev 0 rfl) Evs.nil))) w)) (hH.vu hR (by decide) hA) rfl (fun _ _ => rfl) (kM [false, false] rfl rfl) (by decide) ?_
      clear hH
      rintro v16 _ w ⟨_, _, E12, rfl, rfl, hO13, A9, c10, rfl, hS11⟩ hH
      replace hH : HH w0 (bks ([bl g 43 #[.slice A b.length c]])) [([[bl g 43 #[.slice A9 (b.drop b.length).length c10]], E12] : List Hl).flatten] w := hH
      obtain ⟨A14, c15, rfl⟩ := hO13.slice
      replace hH : HH w0 (bks ([bl g 43 #[.slice A b.length c]])) [[bl g 43 #[(.slice A9 ((b.drop b.length).length) c10)]], E12] w := hH.cast (by simp)
      obtain ⟨hV17, hQ18⟩ := hS11 w0 hR
      replace hV17 : Vu cByte w0 A9 (b.drop b.length).length c10 (b.drop b.length) := hV17
      replace hQ18 := hQ18 _ hA
      refine pxV (v := (.slice A14 (([] ++ b.take b.length).length) c15)) (fun _ _ hF => opExtract rfl (hF.ev 0 rfl) rfl) rfl (fun _ _ => rfl) (kA rfl) (by decide) ?_
      refine pxV (v := (.int .i64 0)) (fun _ _ hF => opExtract rfl (hF.ev 1 rfl) rfl) rfl (fun _ _ => rfl) (kM [true, false] rfl rfl) (by decide) ?_
      refine pxV (v := (.slice A14 (([] ++ b.take b.length).length) c15)) (fun _ _ hF => opAssign rfl (hF.ev 1 rfl)) rfl (fun _ _ => rfl) (kM [true, false] rfl rfl) (by decide) ?_
      refine pxV (v := (.int .i64 0)) (fun _ _ hF => opAssign rfl (hF.ev 1 rfl)) rfl (fun _ _ => rfl) (kM [true, false] rfl rfl) (by decide) ?_
      refine pxEnd ?_
      refine qxThen ?_
      refine cxRet ?_
      refine qxThenR ?_
      refine qxRet2 1 0 rfl rfl rfl ?_
      have he := leg_end_ok hc1 hl2
      exact ⟨_, _, rfl, ⟨(.slice A14 (([] ++ b.take b.length).length) c15), _, _, (by rw [he]; first | done | rfl), rfl, (by rw [he]; exact hO13), _, _, _, rfl, hS11, (by rw [he]; intro _; rfl)⟩, hH.out [true, true]⟩
  · obtain ⟨hK, hK8⟩ := legK_small hk hc1
    have hN := legN_lt (b := b) hk hc1
    refine cxSkip ?_
    refine qxThen ?_
    refine cxSeq ?_
    rcases Nat.lt_or_ge b.length (legK kind) with hn19 | hn19
    · refine cxReg ?_
      refine pxV (v := (.pointer (some ⟨g, 0, none⟩))) (fun _ _ hF => opMove rfl (hF.ev 1 rfl)) rfl (fun _ _ => rfl) (kM [false, true, true] rfl rfl) (by decide) ?_
      refine pxV (v := (.int .u64 (((kind) : Nat) : Int))) (fun _ _ hF => opMove rfl (hF.ev 2 rfl)) rfl (fun _ _ => rfl) (kM [true, true, false] rfl rfl) (by decide) ?_
      refine pxV (v := (.int .i64 (((legK kind) : Nat) : Int))) (fun _ _ hF => opShlI (m := 1) (n := kind) (z := (legK kind)) rfl rfl (hF.ev 0 rfl) (by omega) (by rw [Nat.one_mul]; exact hK.symm) (by omega)) rfl (fun _ _ => rfl) (kM [false, true, true] rfl rfl) (by decide) ?_
      refine pxE 0 hH rfl (fun _ hF => Does.small (number_no g c A b hA (legK kind) hn19) (fun w => opCall rfl Try.func23 rfl rfl (Evs.cons (v := (.pointer (some ⟨g, 0, none⟩))) (hF.ev 1 rfl) (Evs.cons (v := (.int .i64 (((legK kind) : Nat) : Int))) (hF.ev 0 rfl) Evs.nil)) w)) (hH.vu hR (by decide) hA) rfl (fun _ _ => rfl) (kM [false, false, true] rfl rfl) (by decide) ?_
      clear hH
      rintro _ _ w ⟨rfl, A20, c21, rfl, hS22⟩ hH
      obtain ⟨hV23, hQ24⟩ := hS22 w0 hR
      replace hV23 : Vu cByte w0 A20 b.length c21 b := hV23
      replace hQ24 := hQ24 _ hA
      replace hH : HH w0 (bks ([bl g 43 #[.slice A b.length c]])) [[bl g 43 #[(.slice A20 b.length c21)]]] w := hH
      refine pxV (v := (.tuple #[(.int .u64 0), (.bool false)])) (fun _ _ hF => opMove rfl (hF.ev 0 rfl)) rfl (fun _ _ => rfl) (kM [false, true] rfl rfl) (by decide) ?_
      refine pxV (v := (.int .u64 0)) (fun _ _ hF => opExtract rfl (hF.ev 0 rfl) rfl) rfl (fun _ _ => rfl) (kA rfl) (by decide) ?_
      refine pxV (v := (.bool false)) (fun _ _ hF => opExtract rfl (hF.ev 1 rfl) rfl) rfl (fun _ _ => rfl) (kM [true, false, true] rfl rfl) (by decide) ?_
      refine pxV (v := (.int .u64 0)) (fun _ _ hF => opAssign rfl (hF.ev 1 rfl)) rfl (fun _ _ => rfl) (kM [true, false, true] rfl rfl) (by decide) ?_
      refine pxV (v := (.bool false)) (fun _ _ hF => opAssign rfl (hF.ev 1 rfl)) rfl (fun _ _ => rfl) (kM [true, false, true] rfl rfl) (by decide) ?_
      refine pxEnd ?_
      refine qxThen ?_
      refine cxSeq ?_
      refine cxSeq ?_
      refine cxReg ?_
      refine pxV (v := (.bool false)) (fun _ _ hF => opMove rfl (hF.ev 0 rfl)) rfl (fun _ _ => rfl) (kM [false, true, true] rfl rfl) (by decide) ?_
      refine pxV (v := (.bool true)) (fun _ _ hF => opNot rfl (hF.ev 0 rfl) rfl) rfl (fun _ _ => rfl) (kM [false, true, true] rfl rfl) (by decide) ?_
      refine pxEnd ?_
      refine qxThen ?_
      refine cxT 0 rfl rfl ?_
      refine cxSeq ?_
      refine cxReg ?_
      refine pxV (v := (.slice none 0 0)) (fun _ _ hF => opAssign rfl rfl) rfl (fun _ _ => rfl) (kM [false, false, false] rfl rfl) (by decide) ?_
      refine pxV (v := (.int .i64 2)) (fun _ _ hF => opAssign rfl rfl) rfl (fun _ _ => rfl) (kA rfl) (by decide) ?_
      refine pxEnd ?_
      refine qxThen ?_
      refine cxRet ?_
      refine qxThenR ?_
      refine qxRet2 1 0 rfl rfl rfl ?_
      have he := leg_no hn19
      exact ⟨_, _, rfl, ⟨.slice none 0 0, _, [], (by rw [he]; first | done | rfl), rfl, (by rw [he]; exact OwnT.nil _ _), _, _, _, rfl, hS22, (by rw [he]; intro h; cases h)⟩, HH.out (HH.pad hH 1) [true, true]⟩
    · refine cxReg ?_
      refine pxV (v := (.pointer (some ⟨g, 0, none⟩))) (fun _ _ hF => opMove rfl (hF.ev 1 rfl)) rfl (fun _ _ => rfl) (kM [false, true, true] rfl rfl) (by decide) ?_
      refine pxV (v := (.int .u64 (((kind) : Nat) : Int))) (fun _ _ hF => opMove rfl (hF.ev 2 rfl)) rfl (fun _ _ => rfl) (kM [true, true, false] rfl rfl) (by decide) ?_
      refine pxV (v := (.int .i64 (((legK kind) : Nat) : Int))) (fun _ _ hF => opShlI (m := 1) (n := kind) (z := (legK kind)) rfl rfl (hF.ev 0 rfl) (by omega) (by rw [Nat.one_mul]; exact hK.symm) (by omega)) rfl (fun _ _ => rfl) (kM [false, true, true] rfl rfl) (by decide) ?_
      refine pxE 0 hH rfl (fun _ hF => Does.small (number_ok g c A b hA (legK kind) hn19 hK8 (legN kind b) (legN_of hc1)) (fun w => opCall rfl Try.func23 rfl rfl (Evs.cons (v := (.pointer (some ⟨g, 0, none⟩))) (hF.ev 1 rfl) (Evs.cons (v := (.int .i64 (((legK kind) : Nat) : Int))) (hF.ev 0 rfl) Evs.nil)) w)) (hH.vu hR (by decide) hA) rfl (fun _ _ => rfl) (kM [false, false, true] rfl rfl) (by decide) ?_
      clear hH
      rintro _ _ w ⟨rfl, A25, c26, rfl, hS27⟩ hH
      obtain ⟨hV28, hQ29⟩ := hS27 w0 hR
      replace hV28 : Vu cByte w0 A25 (b.drop (legK kind)).length c26 (b.drop (legK kind)) := hV28
      replace hQ29 := hQ29 _ hA
      replace hH : HH w0 (bks ([bl g 43 #[.slice A b.length c]])) [[bl g 43 #[(.slice A25 ((b.drop (legK kind)).length) c26)]]] w := hH
      refine pxV (v := (.tuple #[(.int .u64 (((legN kind b) : Nat) : Int)), (.bool true)])) (fun _ _ hF => opMove rfl (hF.ev 0 rfl)) rfl (fun _ _ => rfl) (kM [false, true] rfl rfl) (by decide) ?_
      refine pxV (v := (.int .u64 (((legN kind b) : Nat) : Int))) (fun _ _ hF => opExtract rfl (hF.ev 0 rfl) rfl) rfl (fun _ _ => rfl) (kA rfl) (by decide) ?_
      refine pxV (v := (.bool true)) (fun _ _ hF => opExtract rfl (hF.ev 1 rfl) rfl) rfl (fun _ _ => rfl) (kM [true, false, true] rfl rfl) (by decide) ?_
      refine pxV (v := (.int .u64 (((legN kind b) : Nat) : Int))) (fun _ _ hF => opAssign rfl (hF.ev 1 rfl)) rfl (fun _ _ => rfl) (kM [true, false, true] rfl rfl) (by decide) ?_
      refine pxV (v := (.bool true)) (fun _ _ hF => opAssign rfl (hF.ev 1 rfl)) rfl (fun _ _ => rfl) (kM [true, false, true] rfl rfl) (by decide) ?_
      refine pxEnd ?_
      refine qxThen ?_
      refine cxSeq ?_
      refine cxSeq ?_
      refine cxReg ?_
      refine pxV (v := (.bool true)) (fun _ _ hF => opMove rfl (hF.ev 0 rfl)) rfl (fun _ _ => rfl) (kM [false, true, true] rfl rfl) (by decide) ?_
      refine pxV (v := (.bool false)) (fun _ _ hF => opNot rfl (hF.ev 0 rfl) rfl) rfl (fun _ _ => rfl) (kM [false, true, true] rfl rfl) (by decide) ?_
      refine pxEnd ?_
      refine qxThen ?_
      refine cxF 0 rfl rfl ?_
      refine cxSkip ?_
      refine qxThen ?_
      refine cxSeq ?_
      rcases (show (20000 < legN kind b) ∨ (legN kind b ≤ 20000 ∧ (b.drop (legK kind)).length < legN kind b) ∨ (legN kind b ≤ 20000 ∧ legN kind b ≤ (b.drop (legK kind)).length) by omega) with hl30 | ⟨hl30, hf31⟩ | ⟨hl30, hf31⟩
      · refine cxReg ?_
        refine pxV (v := (.pointer (some ⟨g, 0, none⟩))) (fun _ _ hF => opMove rfl (hF.ev 2 rfl)) rfl (fun _ _ => rfl) (kM [false, true, false] rfl rfl) (by decide) ?_
        refine pxV (v := (.int .u64 (((legN kind b) : Nat) : Int))) (fun _ _ hF => opMove rfl (hF.ev 1 rfl)) rfl (fun _ _ => rfl) (kM [true, false] rfl rfl) (by decide) ?_
        replace hH := HH.pad hH 1
        replace hH : HH w0 (bks ([bl g 43 #[.slice A b.length c]])) [[bl g 43 #[(.slice A25 ((b.drop (legK kind)).length) c26)]], []] w := hH
        replace hH : HH w0 (bks ([bl g 43 #[.slice A b.length c]])) [([[bl g 43 #[(.slice A25 ((b.drop (legK kind)).length) c26)]], []] : List Hl).flatten] w := hH.cast (by simp)
        refine pxE 0 hH rfl (fun _ hF => Does.small (ext_long g c26 A25 (b.drop (legK kind)) none 0 ([]) ([]) (OwnT.nil cByte 5) (hH.off 0 rfl hV28 (by decide) hQ29) (Nat.zero_le _) (legN kind b) (by omega) (by rw [List.length_nil]; omega)) (fun w => opCall rfl Try.func31 rfl rfl (Evs.cons (v := (.pointer (some ⟨g, 0, none⟩))) (hF.ev 1 rfl) (Evs.cons (v := (.slice none 0 0)) rfl (Evs.cons (v := (.int .u64 (((legN kind b) : Nat) : Int))) (hF.ev 0 rfl) Evs.nil))) w)) (hH.vu hV28 (by decide) hQ29) rfl (fun _ _ => rfl) (kM [false, false] rfl rfl) (by decide) ?_
        clear hH
        rintro _ _ w ⟨rfl, A32, c33, rfl, hS34⟩ hH
        obtain ⟨hV35, hQ36⟩ := hS34 w0 hV28
        replace hV35 : Vu cByte w0 A32 (b.drop (legK kind)).length c33 (b.drop (legK kind)) := hV35
        replace hQ36 := hQ36 _ hQ29
        replace hH : HH w0 (bks ([bl g 43 #[.slice A b.length c]])) [[bl g 43 #[(.slice A32 ((b.drop (legK kind)).length) c33)]]] w := hH
        refine pxV (v := (.slice none 0 0)) (fun _ _ hF => opExtract rfl (hF.ev 0 rfl) rfl) rfl (fun _ _ => rfl) (kA rfl) (by decide) ?_
        refine pxV (v := (.int .i64 6)) (fun _ _ hF => opExtract rfl (hF.ev 1 rfl) rfl) rfl (fun _ _ => rfl) (kM [true, false] rfl rfl) (by decide) ?_
        refine pxV (v := (.slice none 0 0)) (fun _ _ hF => opAssign rfl (hF.ev 1 rfl)) rfl (fun _ _ => rfl) (kM [true, false] rfl rfl) (by decide) ?_
        refine pxV (v := (.int .i64 6)) (fun _ _ hF => opAssign rfl (hF.ev 1 rfl)) rfl (fun _ _ => rfl) (kM [true, false] rfl rfl) (by decide) ?_
        refine pxEnd ?_
        refine qxThen ?_
        refine cxRet ?_
        refine qxRet2 1 0 rfl rfl rfl ?_
        have he := leg_long hn19 hl30
        exact ⟨_, _, rfl, ⟨.slice none 0 0, _, [], (by rw [he]; first | done | rfl), rfl, (by rw [he]; exact OwnT.nil _ _), _, _, _, rfl, (hS27.trans hS34), (by rw [he]; intro h; cases h)⟩, HH.out (HH.pad hH 1) [true, true]⟩
      · refine cxReg ?_
        refine pxV (v := (.pointer (some ⟨g, 0, none⟩))) (fun _ _ hF => opMove rfl (hF.ev 2 rfl)) rfl (fun _ _ => rfl) (kM [false, true, false] rfl rfl) (by decide) ?_
        refine pxV (v := (.int .u64 (((legN kind b) : Nat) : Int))) (fun _ _ hF => opMove rfl (hF.ev 1 rfl)) rfl (fun _ _ => rfl) (kM [true, false] rfl rfl) (by decide) ?_
        replace hH := HH.pad hH 1
        replace hH : HH w0 (bks ([bl g 43 #[.slice A b.length c]])) [[bl g 43 #[(.slice A25 ((b.drop (legK kind)).length) c26)]], []] w := hH
        replace hH : HH w0 (bks ([bl g 43 #[.slice A b.length c]])) [([[bl g 43 #[(.slice A25 ((b.drop (legK kind)).length) c26)]], []] : List Hl).flatten] w := hH.cast (by simp)
        refine pxE 0 hH rfl (fun _ hF => Does.small (ext_few g c26 A25 (b.drop (legK kind)) none 0 ([]) ([]) (OwnT.nil cByte 5) (hH.off 0 rfl hV28 (by decide) hQ29) (Nat.zero_le _) (legN kind b) (by omega) (by rw [List.length_nil]; omega) hf31) (fun w => opCall rfl Try.func31 rfl rfl (Evs.cons (v := (.pointer (some ⟨g, 0, none⟩))) (hF.ev 1 rfl) (Evs.cons (v := (.slice none 0 0)) rfl (Evs.cons (v := (.int .u64 (((legN kind b) : Nat) : Int))) (hF.ev 0 rfl) Evs.nil))) w)) (hH.vu hV28 (by decide) hQ29) rfl (fun _ _ => rfl) (kM [false, false] rfl rfl) (by decide) ?_
        clear hH
        rintro _ _ w ⟨rfl, A37, c38, rfl, hS39⟩ hH
        obtain ⟨hV40, hQ41⟩ := hS39 w0 hV28
        replace hV40 : Vu cByte w0 A37 (b.drop (legK kind)).length c38 (b.drop (legK kind)) := hV40
        replace hQ41 := hQ41 _ hQ29
        replace hH : HH w0 (bks ([bl g 43 #[.slice A b.length c]])) [[bl g 43 #[(.slice A37 ((b.drop (legK kind)).length) c38)]]] w := hH
        refine pxV (v := (.slice none 0 0)) (fun _ _ hF => opExtract rfl (hF.ev 0 rfl) rfl) rfl (fun _ _ => rfl) (kA rfl) (by decide) ?_
        refine pxV (v := (.int .i64 2)) (fun _ _ hF => opExtract rfl (hF.ev 1 rfl) rfl) rfl (fun _ _ => rfl) (kM [true, false] rfl rfl) (by decide) ?_
        refine pxV (v := (.slice none 0 0)) (fun _ _ hF => opAssign rfl (hF.ev 1 rfl)) rfl (fun _ _ => rfl) (kM [true, false] rfl rfl) (by decide) ?_
        refine pxV (v := (.int .i64 2)) (fun _ _ hF => opAssign rfl (hF.ev 1 rfl)) rfl (fun _ _ => rfl) (kM [true, false] rfl rfl) (by decide) ?_
        refine pxEnd ?_
        refine qxThen ?_
        refine cxRet ?_
        refine qxRet2 1 0 rfl rfl rfl ?_
        have he := leg_few hn19 hl30 hf31
        exact ⟨_, _, rfl, ⟨.slice none 0 0, _, [], (by rw [he]; first | done | rfl), rfl, (by rw [he]; exact OwnT.nil _ _), _, _, _, rfl, (hS27.trans hS39), (by rw [he]; intro h; cases h)⟩, HH.out (HH.pad hH 1) [true, true]⟩
      · refine cxReg ?_
        refine pxV (v := (.pointer (some ⟨g, 0, none⟩))) (fun _ _ hF => opMove rfl (hF.ev 2 rfl)) rfl (fun _ _ => rfl) (kM [false, true, false] rfl rfl) (by decide) ?_
        refine pxV (v := (.int .u64 (((legN kind b) : Nat) : Int))) (fun _ _ hF => opMove rfl (hF.ev 1 rfl)) rfl (fun _ _ => rfl) (kM [true, false] rfl rfl) (by decide) ?_
        replace hH := HH.pad hH 1
        replace hH : HH w0 (bks ([bl g 43 #[.slice A b.length c]])) [[bl g 43 #[(.slice A25 ((b.drop (legK kind)).length) c26)]], []] w := hH
        replace hH : HH w0 (bks ([bl g 43 #[.slice A b.length c]])) [([[bl g 43 #[(.slice A25 ((b.drop (legK kind)).length) c26)]], []] : List Hl).flatten] w := hH.cast (by simp)
        refine pxE 0 hH rfl (fun _ hF => Does.small (ext_ok g c26 A25 (b.drop (legK kind)) none 0 ([]) ([]) (OwnT.nil cByte 5) (hH.off 0 rfl hV28 (by decide) hQ29) (Nat.zero_le _) (legN kind b) (by omega) (by rw [List.length_nil]; omega) hf31) (fun w => opCall rfl Try.func31 rfl rfl (Evs.cons (v := (.pointer (some ⟨g, 0, none⟩))) (hF.ev 1 rfl) (Evs.cons (v := (.slice none 0 0)) rfl (Evs.cons (v := (.int .u64 (((legN kind b) : Nat) : Int))) (hF.ev 0 rfl) Evs.nil))) w)) (hH.vu hV28 (by decide) hQ29) rfl (fun _ _ => rfl) (kM [false, false] rfl rfl) (by decide) ?_
        clear hH
        rintro v49 _ w ⟨_, _, E45, rfl, rfl, hO46, A42, c43, rfl, hS44⟩ hH
        replace hH : HH w0 (bks ([bl g 43 #[.slice A b.length c]])) [([[bl g 43 #[.slice A42 ((b.drop (legK kind)).drop (legN kind b)).length c43]], E45] : List Hl).flatten] w := hH
        obtain ⟨A47, c48, rfl⟩ := hO46.slice
        replace hH : HH w0 (bks ([bl g 43 #[.slice A b.length c]])) [[bl g 43 #[(.slice A42 (((b.drop (legK kind)).drop (legN kind b)).length) c43)]], E45] w := hH.cast (by simp)
        obtain ⟨hV50, hQ51⟩ := hS44 w0 hV28
        replace hV50 : Vu cByte w0 A42 ((b.drop (legK kind)).drop (legN kind b)).length c43 ((b.drop (legK kind)).drop (legN kind b)) := hV50
        replace hQ51 := hQ51 _ hQ29
        refine pxV (v := (.slice A47 (([] ++ (b.drop (legK kind)).take (legN kind b)).length) c48)) (fun _ _ hF => opExtract rfl (hF.ev 0 rfl) rfl) rfl (fun _ _ => rfl) (kA rfl) (by decide) ?_
        refine pxV (v := (.int .i64 0)) (fun _ _ hF => opExtract rfl (hF.ev 1 rfl) rfl) rfl (fun _ _ => rfl) (kM [true, false] rfl rfl) (by decide) ?_
        refine pxV (v := (.slice A47 (([] ++ (b.drop (legK kind)).take (legN kind b)).length) c48)) (fun _ _ hF => opAssign rfl (hF.ev 1 rfl)) rfl (fun _ _ => rfl) (kM [true, false] rfl rfl) (by decide) ?_
        refine pxV (v := (.int .i64 0)) (fun _ _ hF => opAssign rfl (hF.ev 1 rfl)) rfl (fun _ _ => rfl) (kM [true, false] rfl rfl) (by decide) ?_
        refine pxEnd ?_
        refine qxThen ?_
        refine cxRet ?_
        refine qxRet2 1 0 rfl rfl rfl ?_
        have he := leg_yes hn19 hl30 hf31
        exact ⟨_, _, rfl, ⟨(.slice A47 (([] ++ (b.drop (legK kind)).take (legN kind b)).length) c48), _, _, (by rw [he]; first | done | rfl), rfl, (by rw [he]; exact hO46), _, _, _, rfl, (hS27.trans hS44), (by rw [he]; intro _; rfl)⟩, hH.out [true, true]⟩

set_option maxHeartbeats 8000000 in
theorem mod_c (g c : Nat) (A : Option Addr) (b : List UInt8) (hA : Off A b.length [g]) (may : Bool) : Does Try.prog 29 #[(.pointer (some ⟨g, 0, none⟩)), (.bool (may))] [bl g 43 #[.slice A b.length c]] (fun w => Vu cByte w A b.length c b) (fun v E' => BodyAt g A c b (frs may [] b) v E') := by
  refine does_of (fn := Try.f29) Try.func29 rfl Try.ntmps29 (Nat.le_of_ble_eq_true rfl) rfl ?_
  intro w0 hH hR
  have hcap := hR.cap
  refine cxSeq ?_
  refine cxReg ?_
  refine pxV (v := (.slice none 0 0)) (fun _ _ hF => opAssign rfl rfl) rfl (fun _ _ => rfl) (kA rfl) (by decide) ?_
  refine pxV (v := (.int .i64 0)) (fun _ _ hF => opAssign rfl rfl) rfl (fun _ _ => rfl) (kM [false, true, true] rfl rfl) (by decide) ?_
  refine pxEnd ?_
  refine qxThen ?_
  refine cxSeq ?_
  refine cxReg ?_
  refine pxV (v := (.slice none 0 0)) (fun _ _ hF => opAssign rfl rfl) rfl (fun _ _ => rfl) (kM [false, true, true] rfl rfl) (by decide) ?_
  refine pxEnd ?_
  refine qxThen ?_
  refine cxBlock ?_
  replace hH := HH.pad hH 1
  replace hH : HH w0 (bks ([bl g 43 #[.slice A b.length c]])) [[bl g 43 #[(.slice A b.length c)]], []] w0 := hH
  refine cxLoop (σ := (List UInt8) × (Option Addr) × Nat × Hl × (List UInt8) × (Option Addr) × Nat) (fun x => [(6, (.slice x.2.1 x.1.length x.2.2.1)), (1, (.bool (may))), (0, (.pointer (some ⟨g, 0, none⟩)))]) (fun x w => HH w0 (bks ([bl g 43 #[.slice A b.length c]])) [[bl g 43 #[(.slice x.2.2.2.2.2.1 x.2.2.2.2.1.length x.2.2.2.2.2.2)]], x.2.2.2.1] w ∧ (OwnT cByte 5 (.slice x.2.1 x.1.length x.2.2.1) x.1 x.2.2.2.1) ∧ (Vu cByte w0 x.2.2.2.2.2.1 x.2.2.2.2.1.length x.2.2.2.2.2.2 x.2.2.2.2.1) ∧ (Off x.2.2.2.2.2.1 x.2.2.2.2.1.length [g]) ∧ (Sfx A c b x.2.2.2.2.2.1 x.2.2.2.2.2.2 x.2.2.2.2.1) ∧ (frs may [] b = frs may x.1 x.2.2.2.2.1) ∧ (x.1.length ≤ 20000)) (fun x => x.2.2.2.2.1.length) ([], none, 0, [], b, A, c) ⟨hH, (OwnT.nil _ _), hR, hA, (Sfx.refl _ _ _), rfl, (Nat.zero_le _)⟩ (slots_at [0, 2, 1] rfl) ?_
  clear hH
  rintro ⟨body, Ab, cb, Eb, b1, A1, c1⟩ w ⟨hH, hO, hV, hQ, hS, hf, hbl⟩
  change CX _ _ _ _ [(6, (.slice Ab body.length cb)), (1, (.bool (may))), (0, (.pointer (some ⟨g, 0, none⟩)))] _
  replace hH : HH w0 (bks ([bl g 43 #[.slice A b.length c]])) [[bl g 43 #[(.slice A1 b1.length c1)]], Eb] w := hH
  replace hO : OwnT cByte 5 (.slice Ab body.length cb) body Eb := hO
  replace hV : Vu cByte w0 A1 b1.length c1 b1 := hV
  replace hQ : Off A1 b1.length [g] := hQ
  replace hS : Sfx A c b A1 c1 b1 := hS
  replace hf : frs may [] b = frs may body b1 := hf
  replace hbl : body.length ≤ 20000 := hbl
  refine cxBlock ?_
  refine cxSeq ?_
  refine cxReg ?_
  refine pxV (v := (.pointer (some ⟨g, 0, none⟩))) (fun _ _ hF => opMove rfl (hF.ev 2 rfl)) rfl (fun _ _ => rfl) (kA rfl) (by decide) ?_
  refine pxE 0 hH rfl (fun _ hF => Does.small (len_c g c1 A1 b1 hQ) (fun w => opCall rfl Try.func32 rfl rfl (Evs.cons (v := (.pointer (some ⟨g, 0, none⟩))) (hF.ev 0 rfl) Evs.nil) w)) (hH.vu hV (by decide) hQ) rfl (fun _ _ => rfl) (kM [false, true, true, true] rfl rfl) (by decide) ?_
  clear hH
  rintro _ _ w ⟨x1, p2, ok3, rfl, A4, c5, b6, rfl, hS7, ho8⟩ hH
  obtain ⟨hV9, hQ10⟩ := hS7 w0 hV
  replace hV9 : Vu cByte w0 A4 b6.length c5 b6 := hV9
  replace hQ10 := hQ10 _ hQ
  replace hH : HH w0 (bks ([bl g 43 #[.slice A b.length c]])) [[bl g 43 #[(.slice A4 b6.length c5)]], Eb] w := hH
  refine pxV (v := (.tuple #[(.int .u64 (((x1) : Nat) : Int)), (.bool (p2)), (.bool (ok3))])) (fun _ _ hF => opMove rfl (hF.ev 0 rfl)) rfl (fun _ _ => rfl) (kM [false, true, true, true] rfl rfl) (by decide) ?_
  refine pxV (v := (.int .u64 (((x1) : Nat) : Int))) (fun _ _ hF => opExtract rfl (hF.ev 0 rfl) rfl) rfl (fun _ _ => rfl) (kA rfl) (by decide) ?_
  refine pxV (v := (.bool (p2))) (fun _ _ hF => opExtract rfl (hF.ev 1 rfl) rfl) rfl (fun _ _ => rfl) (kA rfl) (by decide) ?_
  refine pxV (v := (.bool (ok3))) (fun _ _ hF => opExtract rfl (hF.ev 2 rfl) rfl) rfl (fun _ _ => rfl) (kM [true, true, false, true, true, true] rfl rfl) (by decide) ?_
  refine pxV (v := (.int .u64 (((x1) : Nat) : Int))) (fun _ _ hF => opAssign rfl (hF.ev 2 rfl)) rfl (fun _ _ => rfl) (kM [true, true, false, true, true, true] rfl rfl) (by decide) ?_
  refine pxV (v := (.bool (p2))) (fun _ _ hF => opAssign rfl (hF.ev 2 rfl)) rfl (fun _ _ => rfl) (kM [true, true, false, true, true, true] rfl rfl) (by decide) ?_
  refine pxV (v := (.bool (ok3))) (fun _ _ hF => opAssign rfl (hF.ev 2 rfl)) rfl (fun _ _ => rfl) (kM [true, true, false, true, true, true] rfl rfl) (by decide) ?_
  refine pxEnd ?_
  refine qxThen ?_
  refine cxSeq ?_
  refine cxSeq ?_
  rcases ho8 with ⟨rfl, rfl, rfl, hk11, rfl⟩ | ⟨rfl, hk11⟩
  · have hx32 := tkn_lt b1
    refine cxReg ?_
    refine pxV (v := (.bool true)) (fun _ _ hF => opMove rfl (hF.ev 0 rfl)) rfl (fun _ _ => rfl) (kM [false, true, true, true, true, true] rfl rfl) (by decide) ?_
    refine pxV (v := (.bool false)) (fun _ _ hF => opNot rfl (hF.ev 0 rfl) rfl) rfl (fun _ _ => rfl) (kM [false, true, true, true, true, true] rfl rfl) (by decide) ?_
    refine pxV (v := (.bool false)) (fun _ _ hF => opMove rfl (hF.ev 0 rfl)) rfl (fun _ _ => rfl) (kM [false, true, true, true, true, true] rfl rfl) (by decide) ?_
    refine pxV (v := (.bool ((tkn b1).2.2))) (fun _ _ hF => opMove rfl (hF.ev 1 rfl)) rfl (gOn 0 rfl rfl rfl (by decide)) (kA rfl) (by decide) ?_
    refine pxV (v := (.bool ((tkn b1).2.2))) (fun _ _ hF => opMove rfl (hF.ev 0 rfl)) rfl (gOn 1 rfl rfl rfl (by decide)) (kM [false, true, true, true, true, true, true] rfl rfl) (by decide) ?_
    refine pxSplitB 0 rfl (l1 := [(21, (.bool true)), (19, (.bool false)), (8, (.bool ((tkn b1).2.2))), (7, (.int .u64 ((((tkn b1).1) : Nat) : Int))), (6, (.slice Ab body.length cb)), (1, (.bool (may))), (0, (.pointer (some ⟨g, 0, none⟩)))]) (l2 := [(21, (.bool false)), (19, (.bool false)), (8, (.bool ((tkn b1).2.2))), (7, (.int .u64 ((((tkn b1).1) : Nat) : Int))), (6, (.slice Ab body.length cb)), (1, (.bool (may))), (0, (.pointer (some ⟨g, 0, none⟩)))]) rfl rfl (fun hg12 => ?_) (fun hg12 => ?_)
    · refine pxV (v := (.bool (may))) (fun _ _ hF => opMove rfl (hF.ev 5 rfl)) rfl (gOn 0 rfl rfl rfl (by decide)) (kA rfl) (by decide) ?_
      refine pxV (v := (.bool (!(may)))) (fun _ _ hF => opNot rfl (hF.ev 0 rfl) rfl) rfl (gOn 1 rfl rfl rfl (by decide)) (kM [false, true, true, true, true, true, true, true] rfl rfl) (by decide) ?_
      refine pxV (v := (.bool (!(may)))) (fun _ _ hF => opMove rfl (hF.ev 0 rfl)) rfl (gOn 1 rfl rfl rfl (by decide)) (kM [false, true, true, true, true, true, true, true] rfl rfl) (by decide) ?_
      refine pxSplitB 0 rfl (l1 := [(24, (.bool true)), (21, (.bool true)), (19, (.bool false)), (8, (.bool ((tkn b1).2.2))), (7, (.int .u64 ((((tkn b1).1) : Nat) : Int))), (6, (.slice Ab body.length cb)), (1, (.bool (may))), (0, (.pointer (some ⟨g, 0, none⟩)))]) (l2 := [(24, (.bool false)), (21, (.bool true)), (19, (.bool false)), (8, (.bool ((tkn b1).2.2))), (7, (.int .u64 ((((tkn b1).1) : Nat) : Int))), (6, (.slice Ab body.length cb)), (1, (.bool (may))), (0, (.pointer (some ⟨g, 0, none⟩)))]) rfl rfl (fun hg13 => ?_) (fun hg13 => ?_)
      · replace hg13 : may = false := by simpa using hg13
        refine pxU rfl (gOff 0 rfl rfl rfl (by decide)) (kA rfl) (by decide) ?_
        refine pxU rfl (gOff 0 rfl rfl rfl (by decide)) (kA rfl) (by decide) ?_
        refine pxU rfl (gOff 0 rfl rfl rfl (by decide)) (kA rfl) (by decide) ?_
        refine pxUK rfl (gOff 0 rfl rfl rfl (by decide)) (kA rfl) (by decide) ?_
        refine pxU rfl (gOffU 0 rfl rfl rfl) (kA rfl) (by decide) ?_
        refine pxU rfl (gOffU 0 rfl rfl rfl) (kA rfl) (by decide) ?_
        refine pxU rfl (gOff 1 rfl rfl rfl (by decide)) (kM [false, true, true, true, true, true, true, true, true] rfl rfl) (by decide) ?_
        refine pxV (v := (.bool true)) (fun _ _ hF => opPickT rfl (hF.ev 0 rfl) rfl) rfl (gOn 1 rfl rfl rfl (by decide)) (kM [false, true, true, true, true, true, true, true] rfl rfl) (by decide) ?_
        refine pxV (v := (.bool true)) (fun _ _ hF => opPickT rfl (hF.ev 1 rfl) (hF.ev 0 rfl)) rfl (gOn 2 rfl rfl rfl (by decide)) (kM [false, false, true, true, true, true, true, true] rfl rfl) (by decide) ?_
        refine pxV (v := (.bool true)) (fun _ _ hF => opPickF rfl (hF.ev 1 rfl) (hF.ev 0 rfl)) rfl (fun _ _ => rfl) (kM [false, false, true, true, true, true, true] rfl rfl) (by decide) ?_
        refine pxEnd ?_
        refine qxThen ?_
        refine cxT 0 rfl rfl ?_
        refine cxSeq ?_
        refine cxReg ?_
        refine pxV (v := (.slice none 0 0)) (fun _ _ hF => opAssign rfl rfl) rfl (fun _ _ => rfl) (kM [false, false, false, false, false, false] rfl rfl) (by decide) ?_
        refine pxV (v := (.int .i64 2)) (fun _ _ hF => opAssign rfl rfl) rfl (fun _ _ => rfl) (kA rfl) (by decide) ?_
        refine pxEnd ?_
        refine qxThen ?_
        refine cxRet ?_
        refine qxThenR ?_
        refine qxInR ?_
        refine qxThenR ?_
        refine qxInR ?_
        refine qxRet2 1 0 rfl rfl rfl ?_
        have he := hf.trans (frs_form (body := body) (.inr ⟨hg12, .inl hg13⟩))
        exact ⟨_, _, rfl, ⟨.slice none 0 0, _, [], (by rw [he]; first | done | rfl), rfl, (by rw [he]; exact OwnT.nil _ _), _, _, _, rfl, (hS.trans hS7), (by rw [he]; intro h; cases h)⟩, HH.out (HH.pad hH 1) [true, false, true]⟩
      · replace hg13 : may = true := by simpa using hg13
        refine pxV (v := (.slice Ab body.length cb)) (fun _ _ hF => opMove rfl (hF.ev 5 rfl)) rfl (gOn 0 rfl rfl rfl (by decide)) (kA rfl) (by decide) ?_
        refine pxV (v := (.int .i64 (((body.length) : Nat) : Int))) (fun _ _ hF => opLen (e := 5) rfl (by kernel_rfl) (hF.ev 0 rfl)) rfl (gOn 1 rfl rfl rfl (by decide)) (kM [false, true, true, true, true, true, true, true, true] rfl rfl) (by decide) ?_
        refine pxV (v := (.bool (decide (body.length = 0)))) (fun _ _ hF => opEqI rfl (hF.ev 0 rfl) rfl (dc (by omega))) rfl (gOn 1 rfl rfl rfl (by decide)) (kM [false, true, true, true, true, true, true, true, true] rfl rfl) (by decide) ?_
        refine pxV (v := (.bool (decide (body.length = 0)))) (fun _ _ hF => opMove rfl (hF.ev 0 rfl)) rfl (gOn 1 rfl rfl rfl (by decide)) (kM [false, true, true, true, true, true, true, true, true] rfl rfl) (by decide) ?_
        refine pxSplitP 0 rfl (l1 := [(28, (.bool true)), (24, (.bool false)), (21, (.bool true)), (19, (.bool false)), (8, (.bool ((tkn b1).2.2))), (7, (.int .u64 ((((tkn b1).1) : Nat) : Int))), (6, (.slice Ab body.length cb)), (1, (.bool (may))), (0, (.pointer (some ⟨g, 0, none⟩)))]) (l2 := [(28, (.bool false)), (24, (.bool false)), (21, (.bool true)), (19, (.bool false)), (8, (.bool ((tkn b1).2.2))), (7, (.int .u64 ((((tkn b1).1) : Nat) : Int))), (6, (.slice Ab body.length cb)), (1, (.bool (may))), (0, (.pointer (some ⟨g, 0, none⟩)))]) rfl rfl (fun hg14 => ?_) (fun hg14 => ?_)
        · refine pxV (v := (.int .u64 ((((tkn b1).1) : Nat) : Int))) (fun _ _ hF => opMove rfl (hF.ev 5 rfl)) rfl (gOn 0 rfl rfl rfl (by decide)) (kA rfl) (by decide) ?_
          refine pxV (v := (.bool (decide ((tkn b1).1 < 512)))) (fun _ _ hF => opLss rfl (hF.ev 0 rfl) rfl (dc (by omega))) rfl (gOn 1 rfl rfl rfl (by decide)) (kM [false, true, true, true, true, true, true, true, true, true] rfl rfl) (by decide) ?_
          refine pxV (v := (.bool (decide ((tkn b1).1 < 512)))) (fun _ _ hF => opPickT rfl (hF.ev 1 rfl) (hF.ev 0 rfl)) rfl (gOn 2 rfl rfl rfl (by decide)) (kM [false, false, true, true, true, true, true, true, true, true] rfl rfl) (by decide) ?_
          refine pxV (v := (.bool (decide ((tkn b1).1 < 512)))) (fun _ _ hF => opPickF rfl (hF.ev 1 rfl) (hF.ev 0 rfl)) rfl (gOn 2 rfl rfl rfl (by decide)) (kM [false, false, true, true, true, true, true, true, true] rfl rfl) (by decide) ?_
          refine pxV (v := (.bool (decide ((tkn b1).1 < 512)))) (fun _ _ hF => opPickT rfl (hF.ev 1 rfl) (hF.ev 0 rfl)) rfl (gOn 2 rfl rfl rfl (by decide)) (kM [false, false, true, true, true, true, true, true] rfl rfl) (by decide) ?_
          refine pxV (v := (.bool (decide ((tkn b1).1 < 512)))) (fun _ _ hF => opPickF rfl (hF.ev 1 rfl) (hF.ev 0 rfl)) rfl (fun _ _ => rfl) (kM [false, false, true, true, true, true, true] rfl rfl) (by decide) ?_
          refine pxEnd ?_
          refine qxThen ?_
          refine cxP 0 rfl rfl (fun hc15 => ?_) (fun hc15 => ?_)
          · refine cxSeq ?_
            refine cxReg ?_
            refine pxV (v := (.slice none 0 0)) (fun _ _ hF => opAssign rfl rfl) rfl (fun _ _ => rfl) (kM [false, false, false, false, false, false] rfl rfl) (by decide) ?_
            refine pxV (v := (.int .i64 2)) (fun _ _ hF => opAssign rfl rfl) rfl (fun _ _ => rfl) (kA rfl) (by decide) ?_
            refine pxEnd ?_
            refine qxThen ?_
            refine cxRet ?_
            refine qxThenR ?_
            refine qxInR ?_
            refine qxThenR ?_
            refine qxInR ?_
            refine qxRet2 1 0 rfl rfl rfl ?_
            have he := hf.trans (frs_form (may := may) (.inr ⟨hg12, .inr ⟨List.eq_nil_of_length_eq_zero hg14, hc15⟩⟩))
            exact ⟨_, _, rfl, ⟨.slice none 0 0, _, [], (by rw [he]; first | done | rfl), rfl, (by rw [he]; exact OwnT.nil _ _), _, _, _, rfl, (hS.trans hS7), (by rw [he]; intro h; cases h)⟩, HH.out (HH.pad hH 1) [true, false, true]⟩
          · refine cxSkip ?_
            refine qxThen ?_
            refine cxSeq ?_
            refine cxReg ?_
            refine pxV (v := (.int .i64 0)) (fun _ _ hF => opAssign rfl rfl) rfl (fun _ _ => rfl) (kM [false, true, true, true, true, true] rfl rfl) (by decide) ?_
            refine pxEnd ?_
            refine qxThen ?_
            refine cxSeq ?_
            have hform := frs_not (may := may) (body := body) hk11 (.inr ⟨hg13, .inr (by omega)⟩)
            rcases (show (20000 < body.length + (tkn b1).1) ∨ (body.length + (tkn b1).1 ≤ 20000 ∧ (b1.drop (tkn b1).2.1).length < (tkn b1).1) ∨ (body.length + (tkn b1).1 ≤ 20000 ∧ (tkn b1).1 ≤ (b1.drop (tkn b1).2.1).length) by omega) with hl16 | ⟨hl16, hf17⟩ | ⟨hl16, hf17⟩
            · refine cxReg ?_
              refine pxV (v := (.pointer (some ⟨g, 0, none⟩))) (fun _ _ hF => opMove rfl (hF.ev 5 rfl)) rfl (fun _ _ => rfl) (kM [false, true, true, true, true, true] rfl rfl) (by decide) ?_
              refine pxV (v := (.slice Ab body.length cb)) (fun _ _ hF => opMove rfl (hF.ev 3 rfl)) rfl (fun _ _ => rfl) (kM [true, true, true, false, true, true] rfl rfl) (by decide) ?_
              refine pxV (v := (.int .u64 ((((tkn b1).1) : Nat) : Int))) (fun _ _ hF => opMove rfl (hF.ev 3 rfl)) rfl (fun _ _ => rfl) (kM [true, true, true, false, true, true] rfl rfl) (by decide) ?_
              replace hH : HH w0 (bks ([bl g 43 #[.slice A b.length c]])) [([[bl g 43 #[(.slice A4 ((b1.drop (tkn b1).2.1).length) c5)]], Eb] : List Hl).flatten] w := hH.cast (by simp)
              refine pxE 0 hH rfl (fun _ hF => Does.small (ext_long g c5 A4 (b1.drop (tkn b1).2.1) Ab cb body Eb hO (hH.off 0 rfl hV9 (by decide) hQ10) hbl ((tkn b1).1) (by omega) hl16) (fun w => opCall rfl Try.func31 rfl rfl (Evs.cons (v := (.pointer (some ⟨g, 0, none⟩))) (hF.ev 2 rfl) (Evs.cons (v := (.slice Ab body.length cb)) (hF.ev 1 rfl) (Evs.cons (v := (.int .u64 ((((tkn b1).1) : Nat) : Int))) (hF.ev 0 rfl) Evs.nil))) w)) (hH.vu hV9 (by decide) hQ10) rfl (fun _ _ => rfl) (kM [false, false, false, true, true, true] rfl rfl) (by decide) ?_
              clear hH
              rintro _ _ w ⟨rfl, A18, c19, rfl, hS20⟩ hH
              obtain ⟨hV21, hQ22⟩ := hS20 w0 hV9
              replace hV21 : Vu cByte w0 A18 (b1.drop (tkn b1).2.1).length c19 (b1.drop (tkn b1).2.1) := hV21
              replace hQ22 := hQ22 _ hQ10
              replace hH : HH w0 (bks ([bl g 43 #[.slice A b.length c]])) [[bl g 43 #[(.slice A18 ((b1.drop (tkn b1).2.1).length) c19)]]] w := hH
              refine pxV (v := (.tuple #[(.slice none 0 0), (.int .i64 6)])) (fun _ _ hF => opMove rfl (hF.ev 0 rfl)) rfl (fun _ _ => rfl) (kM [false, true, true, true] rfl rfl) (by decide) ?_
              refine pxV (v := (.slice none 0 0)) (fun _ _ hF => opExtract rfl (hF.ev 0 rfl) rfl) rfl (fun _ _ => rfl) (kA rfl) (by decide) ?_
              refine pxV (v := (.int .i64 6)) (fun _ _ hF => opExtract rfl (hF.ev 1 rfl) rfl) rfl (fun _ _ => rfl) (kM [true, false, true, true, true] rfl rfl) (by decide) ?_
              refine pxV (v := (.slice none 0 0)) (fun _ _ hF => opAssign rfl (hF.ev 1 rfl)) rfl (fun _ _ => rfl) (kM [true, false, true, true, true] rfl rfl) (by decide) ?_
              refine pxV (v := (.int .i64 6)) (fun _ _ hF => opAssign rfl (hF.ev 1 rfl)) rfl (fun _ _ => rfl) (kM [true, false, true, true, true] rfl rfl) (by decide) ?_
              refine pxEnd ?_
              refine qxThen ?_
              refine cxSeq ?_
              refine cxReg ?_
              refine pxV (v := (.int .i64 6)) (fun _ _ hF => opMove rfl (hF.ev 0 rfl)) rfl (fun _ _ => rfl) (kA rfl) (by decide) ?_
              refine pxV (v := (.bool true)) (fun _ _ hF => opNeI rfl (hF.ev 0 rfl) rfl (by decide)) rfl (fun _ _ => rfl) (kM [false, true, true, true, true, true] rfl rfl) (by decide) ?_
              refine pxV (v := (.bool true)) (fun _ _ hF => opMove rfl (hF.ev 0 rfl)) rfl (fun _ _ => rfl) (kM [false, true, true, true, true, true] rfl rfl) (by decide) ?_
              refine pxU rfl (gOff 0 rfl rfl rfl (by decide)) (kM [true, true, true, false, true, true] rfl rfl) (by decide) ?_
              refine pxU rfl (gOff 0 rfl rfl rfl (by decide)) (kA rfl) (by decide) ?_
              refine pxV (v := (.bool true)) (fun _ _ hF => opPickT rfl (hF.ev 0 rfl) rfl) rfl (fun _ _ => rfl) (kM [false, true, true, true, true] rfl rfl) (by decide) ?_
              refine pxEnd ?_
              refine qxThen ?_
              refine cxT 0 rfl rfl ?_
              refine cxSeq ?_
              refine cxReg ?_
              refine pxV (v := (.slice none 0 0)) (fun _ _ hF => opMove rfl (hF.ev 2 rfl)) rfl (fun _ _ => rfl) (kM [false, true, false, false, false] rfl rfl) (by decide) ?_
              refine pxV (v := (.int .i64 6)) (fun _ _ hF => opMove rfl (hF.ev 1 rfl)) rfl (fun _ _ => rfl) (kM [true, false] rfl rfl) (by decide) ?_
              refine pxV (v := (.slice none 0 0)) (fun _ _ hF => opAssign rfl (hF.ev 1 rfl)) rfl (fun _ _ => rfl) (kM [true, false] rfl rfl) (by decide) ?_
              refine pxV (v := (.int .i64 6)) (fun _ _ hF => opAssign rfl (hF.ev 1 rfl)) rfl (fun _ _ => rfl) (kM [true, false] rfl rfl) (by decide) ?_
              refine pxEnd ?_
              refine qxThen ?_
              refine cxRet ?_
              refine qxInR ?_
              refine qxThenR ?_
              refine qxInR ?_
              refine qxRet2 1 0 rfl rfl rfl ?_
              have he := hf.trans (frs_long hform hl16)
              exact ⟨_, _, rfl, ⟨.slice none 0 0, _, [], (by rw [he]; first | done | rfl), rfl, (by rw [he]; exact OwnT.nil _ _), _, _, _, rfl, ((hS.trans hS7).trans hS20), (by rw [he]; intro h; cases h)⟩, HH.out (HH.pad hH 1) [true, true]⟩
            · refine cxReg ?_
              refine pxV (v := (.pointer (some ⟨g, 0, none⟩))) (fun _ _ hF => opMove rfl (hF.ev 5 rfl)) rfl (fun _ _ => rfl) (kM [false, true, true, true, true, true] rfl rfl) (by decide) ?_
              refine pxV (v := (.slice Ab body.length cb)) (fun _ _ hF => opMove rfl (hF.ev 3 rfl)) rfl (fun _ _ => rfl) (kM [true, true, true, false, true, true] rfl rfl) (by decide) ?_
              refine pxV (v := (.int .u64 ((((tkn b1).1) : Nat) : Int))) (fun _ _ hF => opMove rfl (hF.ev 3 rfl)) rfl (fun _ _ => rfl) (kM [true, true, true, false, true, true] rfl rfl) (by decide) ?_
              replace hH : HH w0 (bks ([bl g 43 #[.slice A b.length c]])) [([[bl g 43 #[(.slice A4 ((b1.drop (tkn b1).2.1).length) c5)]], Eb] : List Hl).flatten] w := hH.cast (by simp)
              refine pxE 0 hH rfl (fun _ hF => Does.small (ext_few g c5 A4 (b1.drop (tkn b1).2.1) Ab cb body Eb hO (hH.off 0 rfl hV9 (by decide) hQ10) hbl ((tkn b1).1) (by omega) hl16 hf17) (fun w => opCall rfl Try.func31 rfl rfl (Evs.cons (v := (.pointer (some ⟨g, 0, none⟩))) (hF.ev 2 rfl) (Evs.cons (v := (.slice Ab body.length cb)) (hF.ev 1 rfl) (Evs.cons (v := (.int .u64 ((((tkn b1).1) : Nat) : Int))) (hF.ev 0 rfl) Evs.nil))) w)) (hH.vu hV9 (by decide) hQ10) rfl (fun _ _ => rfl) (kM [false, false, false, true, true, true] rfl rfl) (by decide) ?_
              clear hH
              rintro _ _ w ⟨rfl, A23, c24, rfl, hS25⟩ hH
              obtain ⟨hV26, hQ27⟩ := hS25 w0 hV9
              replace hV26 : Vu cByte w0 A23 (b1.drop (tkn b1).2.1).length c24 (b1.drop (tkn b1).2.1) := hV26
              replace hQ27 := hQ27 _ hQ10
              replace hH : HH w0 (bks ([bl g 43 #[.slice A b.length c]])) [[bl g 43 #[(.slice A23 ((b1.drop (tkn b1).2.1).length) c24)]]] w := hH
              refine pxV (v := (.tuple #[(.slice none 0 0), (.int .i64 2)])) (fun _ _ hF => opMove rfl (hF.ev 0 rfl)) rfl (fun _ _ => rfl) (kM [false, true, true, true] rfl rfl) (by decide) ?_
              refine pxV (v := (.slice none 0 0)) (fun _ _ hF => opExtract rfl (hF.ev 0 rfl) rfl) rfl (fun _ _ => rfl) (kA rfl) (by decide) ?_
              refine pxV (v := (.int .i64 2)) (fun _ _ hF => opExtract rfl (hF.ev 1 rfl) rfl) rfl (fun _ _ => rfl) (kM [true, false, true, true, true] rfl rfl) (by decide) ?_
              refine pxV (v := (.slice none 0 0)) (fun _ _ hF => opAssign rfl (hF.ev 1 rfl)) rfl (fun _ _ => rfl) (kM [true, false, true, true, true] rfl rfl) (by decide) ?_
              refine pxV (v := (.int .i64 2)) (fun _ _ hF => opAssign rfl (hF.ev 1 rfl)) rfl (fun _ _ => rfl) (kM [true, false, true, true, true] rfl rfl) (by decide) ?_
              refine pxEnd ?_
              refine qxThen ?_
              refine cxSeq ?_
              refine cxReg ?_
              refine pxV (v := (.int .i64 2)) (fun _ _ hF => opMove rfl (hF.ev 0 rfl)) rfl (fun _ _ => rfl) (kA rfl) (by decide) ?_
              refine pxV (v := (.bool true)) (fun _ _ hF => opNeI rfl (hF.ev 0 rfl) rfl (by decide)) rfl (fun _ _ => rfl) (kM [false, true, true, true, true, true] rfl rfl) (by decide) ?_
              refine pxV (v := (.bool true)) (fun _ _ hF => opMove rfl (hF.ev 0 rfl)) rfl (fun _ _ => rfl) (kM [false, true, true, true, true, true] rfl rfl) (by decide) ?_
              refine pxU rfl (gOff 0 rfl rfl rfl (by decide)) (kM [true, true, true, false, true, true] rfl rfl) (by decide) ?_
              refine pxU rfl (gOff 0 rfl rfl rfl (by decide)) (kA rfl) (by decide) ?_
              refine pxV (v := (.bool true)) (fun _ _ hF => opPickT rfl (hF.ev 0 rfl) rfl) rfl (fun _ _ => rfl) (kM [false, true, true, true, true] rfl rfl) (by decide) ?_
              refine pxEnd ?_
              refine qxThen ?_
              refine cxT 0 rfl rfl ?_
              refine cxSeq ?_
              refine cxReg ?_
              refine pxV (v := (.slice none 0 0)) (fun _ _ hF => opMove rfl (hF.ev 2 rfl)) rfl (fun _ _ => rfl) (kM [false, true, false, false, false] rfl rfl) (by decide) ?_
              refine pxV (v := (.int .i64 2)) (fun _ _ hF => opMove rfl (hF.ev 1 rfl)) rfl (fun _ _ => rfl) (kM [true, false] rfl rfl) (by decide) ?_
              refine pxV (v := (.slice none 0 0)) (fun _ _ hF => opAssign rfl (hF.ev 1 rfl)) rfl (fun _ _ => rfl) (kM [true, false] rfl rfl) (by decide) ?_
              refine pxV (v := (.int .i64 2)) (fun _ _ hF => opAssign rfl (hF.ev 1 rfl)) rfl (fun _ _ => rfl) (kM [true, false] rfl rfl) (by decide) ?_
              refine pxEnd ?_
              refine qxThen ?_
              refine cxRet ?_
              refine qxInR ?_
              refine qxThenR ?_
              refine qxInR ?_
              refine qxRet2 1 0 rfl rfl rfl ?_
              have he := hf.trans (frs_few2 hform hl16 hf17)
              exact ⟨_, _, rfl, ⟨.slice none 0 0, _, [], (by rw [he]; first | done | rfl), rfl, (by rw [he]; exact OwnT.nil _ _), _, _, _, rfl, ((hS.trans hS7).trans hS25), (by rw [he]; intro h; cases h)⟩, HH.out (HH.pad hH 1) [true, true]⟩
            · refine cxReg ?_
              refine pxV (v := (.pointer (some ⟨g, 0, none⟩))) (fun _ _ hF => opMove rfl (hF.ev 5 rfl)) rfl (fun _ _ => rfl) (kM [false, true, true, true, true, true] rfl rfl) (by decide) ?_
              refine pxV (v := (.slice Ab body.length cb)) (fun _ _ hF => opMove rfl (hF.ev 3 rfl)) rfl (fun _ _ => rfl) (kM [true, true, true, false, true, true] rfl rfl) (by decide) ?_
              refine pxV (v := (.int .u64 ((((tkn b1).1) : Nat) : Int))) (fun _ _ hF => opMove rfl (hF.ev 3 rfl)) rfl (fun _ _ => rfl) (kM [true, true, true, false, true, true] rfl rfl) (by decide) ?_
              replace hH : HH w0 (bks ([bl g 43 #[.slice A b.length c]])) [([[bl g 43 #[(.slice A4 ((b1.drop (tkn b1).2.1).length) c5)]], Eb] : List Hl).flatten] w := hH.cast (by simp)
              refine pxE 0 hH rfl (fun _ hF => Does.small (ext_ok g c5 A4 (b1.drop (tkn b1).2.1) Ab cb body Eb hO (hH.off 0 rfl hV9 (by decide) hQ10) hbl ((tkn b1).1) (by omega) hl16 hf17) (fun w => opCall rfl Try.func31 rfl rfl (Evs.cons (v := (.pointer (some ⟨g, 0, none⟩))) (hF.ev 2 rfl) (Evs.cons (v := (.slice Ab body.length cb)) (hF.ev 1 rfl) (Evs.cons (v := (.int .u64 ((((tkn b1).1) : Nat) : Int))) (hF.ev 0 rfl) Evs.nil))) w)) (hH.vu hV9 (by decide) hQ10) rfl (fun _ _ => rfl) (kM [false, false, false, true, true, true] rfl rfl) (by decide) ?_
              clear hH
              rintro v35 _ w ⟨_, _, E31, rfl, rfl, hO32, A28, c29, rfl, hS30⟩ hH
              replace hH : HH w0 (bks ([bl g 43 #[.slice A b.length c]])) [([[bl g 43 #[.slice A28 ((b1.drop (tkn b1).2.1).drop ((tkn b1).1)).length c29]], E31] : List Hl).flatten] w := hH
              obtain ⟨A33, c34, rfl⟩ := hO32.slice
              replace hH : HH w0 (bks ([bl g 43 #[.slice A b.length c]])) [[bl g 43 #[(.slice A28 (((b1.drop (tkn b1).2.1).drop ((tkn b1).1)).length) c29)]], E31] w := hH.cast (by simp)
              obtain ⟨hV36, hQ37⟩ := hS30 w0 hV9
              replace hV36 : Vu cByte w0 A28 ((b1.drop (tkn b1).2.1).drop ((tkn b1).1)).length c29 ((b1.drop (tkn b1).2.1).drop ((tkn b1).1)) := hV36
              replace hQ37 := hQ37 _ hQ10
              refine pxV (v := (.tuple #[(.slice A33 ((body ++ (b1.drop (tkn b1).2.1).take ((tkn b1).1)).length) c34), (.int .i64 0)])) (fun _ _ hF => opMove rfl (hF.ev 0 rfl)) rfl (fun _ _ => rfl) (kM [false, true, true, true] rfl rfl) (by decide) ?_
              refine pxV (v := (.slice A33 ((body ++ (b1.drop (tkn b1).2.1).take ((tkn b1).1)).length) c34)) (fun _ _ hF => opExtract rfl (hF.ev 0 rfl) rfl) rfl (fun _ _ => rfl) (kA rfl) (by decide) ?_
              refine pxV (v := (.int .i64 0)) (fun _ _ hF => opExtract rfl (hF.ev 1 rfl) rfl) rfl (fun _ _ => rfl) (kM [true, false, true, true, true] rfl rfl) (by decide) ?_
              refine pxV (v := (.slice A33 ((body ++ (b1.drop (tkn b1).2.1).take ((tkn b1).1)).length) c34)) (fun _ _ hF => opAssign rfl (hF.ev 1 rfl)) rfl (fun _ _ => rfl) (kM [true, false, true, true, true] rfl rfl) (by decide) ?_
              refine pxV (v := (.int .i64 0)) (fun _ _ hF => opAssign rfl (hF.ev 1 rfl)) rfl (fun _ _ => rfl) (kM [true, false, true, true, true] rfl rfl) (by decide) ?_
              refine pxEnd ?_
              refine qxThen ?_
              refine cxSeq ?_
              refine cxReg ?_
              refine pxV (v := (.int .i64 0)) (fun _ _ hF => opMove rfl (hF.ev 0 rfl)) rfl (fun _ _ => rfl) (kA rfl) (by decide) ?_
              refine pxV (v := (.bool false)) (fun _ _ hF => opNeI rfl (hF.ev 0 rfl) rfl (by decide)) rfl (fun _ _ => rfl) (kM [false, true, true, true, true, true] rfl rfl) (by decide) ?_
              refine pxV (v := (.bool false)) (fun _ _ hF => opMove rfl (hF.ev 0 rfl)) rfl (fun _ _ => rfl) (kM [false, true, true, true, true, true] rfl rfl) (by decide) ?_
              refine pxV (v := (.bool ((tkn b1).2.2))) (fun _ _ hF => opMove rfl (hF.ev 3 rfl)) rfl (gOn 0 rfl rfl rfl (by decide)) (kM [true, true, true, false, true, true] rfl rfl) (by decide) ?_
              refine pxV (v := (.bool (!((tkn b1).2.2)))) (fun _ _ hF => opNot rfl (hF.ev 0 rfl) rfl) rfl (gOn 1 rfl rfl rfl (by decide)) (kM [false, true, true, true, true, true] rfl rfl) (by decide) ?_
              refine pxV (v := (.bool (!((tkn b1).2.2)))) (fun _ _ hF => opPickF rfl (hF.ev 1 rfl) (hF.ev 0 rfl)) rfl (fun _ _ => rfl) (kM [false, false, true, true, true, true] rfl rfl) (by decide) ?_
              refine pxEnd ?_
              refine qxThen ?_
              refine cxB 0 rfl rfl (fun hc38 => ?_) (fun hc38 => ?_)
              · replace hc38 : ((tkn b1).2.2) = false := by simpa using hc38
                rw [hg12] at hc38; cases hc38
              · replace hc38 : ((tkn b1).2.2) = true := by simpa using hc38
                refine cxSkip ?_
                refine qxInN ?_
                exact qxRound ((body ++ (b1.drop (tkn b1).2.1).take ((tkn b1).1)), A33, c34, E31, ((b1.drop (tkn b1).2.1).drop ((tkn b1).1)), A28, c29) ⟨hH, hO32, hV36, hQ37, ((hS.trans hS7).trans hS30), (by rw [hf]; exact frs_more2 hform hl16 hf17 hg12), (body_le hl16)⟩ (part_less hk11) (slots_at [2, 3, 4] rfl)
        · refine pxU rfl (gOff 0 rfl rfl rfl (by decide)) (kA rfl) (by decide) ?_
          refine pxU rfl (gOff 0 rfl rfl rfl (by decide)) (kA rfl) (by decide) ?_
          refine pxV (v := (.bool false)) (fun _ _ hF => opPickF rfl (hF.ev 0 rfl) rfl) rfl (gOn 1 rfl rfl rfl (by decide)) (kM [false, true, true, true, true, true, true, true, true] rfl rfl) (by decide) ?_
          refine pxV (v := (.bool false)) (fun _ _ hF => opPickF rfl (hF.ev 1 rfl) (hF.ev 0 rfl)) rfl (gOn 2 rfl rfl rfl (by decide)) (kM [false, false, true, true, true, true, true, true, true] rfl rfl) (by decide) ?_
          refine pxV (v := (.bool false)) (fun _ _ hF => opPickT rfl (hF.ev 1 rfl) (hF.ev 0 rfl)) rfl (gOn 2 rfl rfl rfl (by decide)) (kM [false, false, true, true, true, true, true, true] rfl rfl) (by decide) ?_
          refine pxV (v := (.bool false)) (fun _ _ hF => opPickF rfl (hF.ev 1 rfl) (hF.ev 0 rfl)) rfl (fun _ _ => rfl) (kM [false, false, true, true, true, true, true] rfl rfl) (by decide) ?_
          refine pxEnd ?_
          refine qxThen ?_
          refine cxF 0 rfl rfl ?_
          refine cxSkip ?_
          refine qxThen ?_
          refine cxSeq ?_
          refine cxReg ?_
          refine pxV (v := (.int .i64 0)) (fun _ _ hF => opAssign rfl rfl) rfl (fun _ _ => rfl) (kM [false, true, true, true, true, true] rfl rfl) (by decide) ?_
          refine pxEnd ?_
          refine qxThen ?_
          refine cxSeq ?_
          have hform := frs_not (may := may) (body := body) hk11 (.inr ⟨hg13, .inl hg14⟩)
          rcases (show (20000 < body.length + (tkn b1).1) ∨ (body.length + (tkn b1).1 ≤ 20000 ∧ (b1.drop (tkn b1).2.1).length < (tkn b1).1) ∨ (body.length + (tkn b1).1 ≤ 20000 ∧ (tkn b1).1 ≤ (b1.drop (tkn b1).2.1).length) by omega) with hl39 | ⟨hl39, hf40⟩ | ⟨hl39, hf40⟩
          · refine cxReg ?_
            refine pxV (v := (.pointer (some ⟨g, 0, none⟩))) (fun _ _ hF => opMove rfl (hF.ev 5 rfl)) rfl (fun _ _ => rfl) (kM [false, true, true, true, true, true] rfl rfl) (by decide) ?_
            refine pxV (v := (.slice Ab body.length cb)) (fun _ _ hF => opMove rfl (hF.ev 3 rfl)) rfl (fun _ _ => rfl) (kM [true, true, true, false, true, true] rfl rfl) (by decide) ?_
            refine pxV (v := (.int .u64 ((((tkn b1).1) : Nat) : Int))) (fun _ _ hF => opMove rfl (hF.ev 3 rfl)) rfl (fun _ _ => rfl) (kM [true, true, true, false, true, true] rfl rfl) (by decide) ?_
            replace hH : HH w0 (bks ([bl g 43 #[.slice A b.length c]])) [([[bl g 43 #[(.slice A4 ((b1.drop (tkn b1).2.1).length) c5)]], Eb] : List Hl).flatten] w := hH.cast (by simp)
            refine pxE 0 hH rfl (fun _ hF => Does.small (ext_long g c5 A4 (b1.drop (tkn b1).2.1) Ab cb body Eb hO (hH.off 0 rfl hV9 (by decide) hQ10) hbl ((tkn b1).1) (by omega) hl39) (fun w => opCall rfl Try.func31 rfl rfl (Evs.cons (v := (.pointer (some ⟨g, 0, none⟩))) (hF.ev 2 rfl) (Evs.cons (v := (.slice Ab body.length cb)) (hF.ev 1 rfl) (Evs.cons (v := (.int .u64 ((((tkn b1).1) : Nat) : Int))) (hF.ev 0 rfl) Evs.nil))) w)) (hH.vu hV9 (by decide) hQ10) rfl (fun _ _ => rfl) (kM [false, false, false, true, true, true] rfl rfl) (by decide) ?_
            clear hH
            rintro _ _ w ⟨rfl, A41, c42, rfl, hS43⟩ hH
            obtain ⟨hV44, hQ45⟩ := hS43 w0 hV9
            replace hV44 : Vu cByte w0 A41 (b1.drop (tkn b1).2.1).length c42 (b1.drop (tkn b1).2.1) := hV44
            replace hQ45 := hQ45 _ hQ10
            replace hH : HH w0 (bks ([bl g 43 #[.slice A b.length c]])) [[bl g 43 #[(.slice A41 ((b1.drop (tkn b1).2.1).length) c42)]]] w := hH
            refine pxV (v := (.tuple #[(.slice none 0 0), (.int .i64 6)])) (fun _ _ hF => opMove rfl (hF.ev 0 rfl)) rfl (fun _ _ => rfl) (kM [false, true, true, true] rfl rfl) (by decide) ?_
            refine pxV (v := (.slice none 0 0)) (fun _ _ hF => opExtract rfl (hF.ev 0 rfl) rfl) rfl (fun _ _ => rfl) (kA rfl) (by decide) ?_
            refine pxV (v := (.int .i64 6)) (fun _ _ hF => opExtract rfl (hF.ev 1 rfl) rfl) rfl (fun _ _ => rfl) (kM [true, false, true, true, true] rfl rfl) (by decide) ?_
            refine pxV (v := (.slice none 0 0)) (fun _ _ hF => opAssign rfl (hF.ev 1 rfl)) rfl (fun _ _ => rfl) (kM [true, false, true, true, true] rfl rfl) (by decide) ?_
            refine pxV (v := (.int .i64 6)) (fun _ _ hF => opAssign rfl (hF.ev 1 rfl)) rfl (fun _ _ => rfl) (kM [true, false, true, true, true] rfl rfl) (by decide) ?_
            refine pxEnd ?_
            refine qxThen ?_
            refine cxSeq ?_
            refine cxReg ?_
            refine pxV (v := (.int .i64 6)) (fun _ _ hF => opMove rfl (hF.ev 0 rfl)) rfl (fun _ _ => rfl) (kA rfl) (by decide) ?_
            refine pxV (v := (.bool true)) (fun _ _ hF => opNeI rfl (hF.ev 0 rfl) rfl (by decide)) rfl (fun _ _ => rfl) (kM [false, true, true, true, true, true] rfl rfl) (by decide) ?_
            refine pxV (v := (.bool true)) (fun _ _ hF => opMove rfl (hF.ev 0 rfl)) rfl (fun _ _ => rfl) (kM [false, true, true, true, true, true] rfl rfl) (by decide) ?_
            refine pxU rfl (gOff 0 rfl rfl rfl (by decide)) (kM [true, true, true, false, true, true] rfl rfl) (by decide) ?_
            refine pxU rfl (gOff 0 rfl rfl rfl (by decide)) (kA rfl) (by decide) ?_
            refine pxV (v := (.bool true)) (fun _ _ hF => opPickT rfl (hF.ev 0 rfl) rfl) rfl (fun _ _ => rfl) (kM [false, true, true, true, true] rfl rfl) (by decide) ?_
            refine pxEnd ?_
            refine qxThen ?_
            refine cxT 0 rfl rfl ?_
            refine cxSeq ?_
            refine cxReg ?_
            refine pxV (v := (.slice none 0 0)) (fun _ _ hF => opMove rfl (hF.ev 2 rfl)) rfl (fun _ _ => rfl) (kM [false, true, false, false, false] rfl rfl) (by decide) ?_
            refine pxV (v := (.int .i64 6)) (fun _ _ hF => opMove rfl (hF.ev 1 rfl)) rfl (fun _ _ => rfl) (kM [true, false] rfl rfl) (by decide) ?_
            refine pxV (v := (.slice none 0 0)) (fun _ _ hF => opAssign rfl (hF.ev 1 rfl)) rfl (fun _ _ => rfl) (kM [true, false] rfl rfl) (by decide) ?_
            refine pxV (v := (.int .i64 6)) (fun _ _ hF => opAssign rfl (hF.ev 1 rfl)) rfl (fun _ _ => rfl) (kM [true, false] rfl rfl) (by decide) ?_
            refine pxEnd ?_
            refine qxThen ?_
            refine cxRet ?_
            refine qxInR ?_
            refine qxThenR ?_
            refine qxInR ?_
            refine qxRet2 1 0 rfl rfl rfl ?_
            have he := hf.trans (frs_long hform hl39)
            exact ⟨_, _, rfl, ⟨.slice none 0 0, _, [], (by rw [he]; first | done | rfl), rfl, (by rw [he]; exact OwnT.nil _ _), _, _, _, rfl, ((hS.trans hS7).trans hS43), (by rw [he]; intro h; cases h)⟩, HH.out (HH.pad hH 1) [true, true]⟩
          · refine cxReg ?_
            refine pxV (v := (.pointer (some ⟨g, 0, none⟩))) (fun _ _ hF => opMove rfl (hF.ev 5 rfl)) rfl (fun _ _ => rfl) (kM [false, true, true, true, true, true] rfl rfl) (by decide) ?_
            refine pxV (v := (.slice Ab body.length cb)) (fun _ _ hF => opMove rfl (hF.ev 3 rfl)) rfl (fun _ _ => rfl) (kM [true, true, true, false, true, true] rfl rfl) (by decide) ?_
            refine pxV (v := (.int .u64 ((((tkn b1).1) : Nat) : Int))) (fun _ _ hF => opMove rfl (hF.ev 3 rfl)) rfl (fun _ _ => rfl) (kM [true, true, true, false, true, true] rfl rfl) (by decide) ?_
            replace hH : HH w0 (bks ([bl g 43 #[.slice A b.length c]])) [([[bl g 43 #[(.slice A4 ((b1.drop (tkn b1).2.1).length) c5)]], Eb] : List Hl).flatten] w := hH.cast (by simp)
            refine pxE 0 hH rfl (fun _ hF => Does.small (ext_few g c5 A4 (b1.drop (tkn b1).2.1) Ab cb body Eb hO (hH.off 0 rfl hV9 (by decide) hQ10) hbl ((tkn b1).1) (by omega) hl39 hf40) (fun w => opCall rfl Try.func31 rfl rfl (Evs.cons (v := (.pointer (some ⟨g, 0, none⟩))) (hF.ev 2 rfl) (Evs.cons (v := (.slice Ab body.length cb)) (hF.ev 1 rfl) (Evs.cons (v := (.int .u64 ((((tkn b1).1) : Nat) : Int))) (hF.ev 0 rfl) Evs.nil))) w)) (hH.vu hV9 (by decide) hQ10) rfl (fun _ _ => rfl) (kM [false, false, false, true, true, true] rfl rfl) (by decide) ?_
            clear hH
            rintro _ _ w ⟨rfl, A46, c47, rfl, hS48⟩ hH
            obtain ⟨hV49, hQ50⟩ := hS48 w0 hV9
            replace hV49 : Vu cByte w0 A46 (b1.drop (tkn b1).2.1).length c47 (b1.drop (tkn b1).2.1) := hV49
            replace hQ50 := hQ50 _ hQ10
            replace hH : HH w0 (bks ([bl g 43 #[.slice A b.length c]])) [[bl g 43 #[(.slice A46 ((b1.drop (tkn b1).2.1).length) c47)]]] w := hH
            refine pxV (v := (.tuple #[(.slice none 0 0), (.int .i64 2)])) (fun _ _ hF => opMove rfl (hF.ev 0 rfl)) rfl (fun _ _ => rfl) (kM [false, true, true, true] rfl rfl) (by decide) ?_
            refine pxV (v := (.slice none 0 0)) (fun _ _ hF => opExtract rfl (hF.ev 0 rfl) rfl) rfl (fun _ _ => rfl) (kA rfl) (by decide) ?_
            refine pxV (v := (.int .i64 2)) (fun _ _ hF => opExtract rfl (hF.ev 1 rfl) rfl) rfl (fun _ _ => rfl) (kM [true, false, true, true, true] rfl rfl) (by decide) ?_
            refine pxV (v := (.slice none 0 0)) (fun _ _ hF => opAssign rfl (hF.ev 1 rfl)) rfl (fun _ _ => rfl) (kM [true, false, true, true, true] rfl rfl) (by decide) ?_
            refine pxV (v := (.int .i64 2)) (fun _ _ hF => opAssign rfl (hF.ev 1 rfl)) rfl (fun _ _ => rfl) (kM [true, false, true, true, true] rfl rfl) (by decide) ?_
            refine pxEnd ?_
            refine qxThen ?_
            refine cxSeq ?_
            refine cxReg ?_
            refine pxV (v := (.int .i64 2)) (fun _ _ hF => opMove rfl (hF.ev 0 rfl)) rfl (fun _ _ => rfl) (kA rfl) (by decide) ?_
            refine pxV (v := (.bool true)) (fun _ _ hF => opNeI rfl (hF.ev 0 rfl) rfl (by decide)) rfl (fun _ _ => rfl) (kM [false, true, true, true, true, true] rfl rfl) (by decide) ?_
            refine pxV (v := (.bool true)) (fun _ _ hF => opMove rfl (hF.ev 0 rfl)) rfl (fun _ _ => rfl) (kM [false, true, true, true, true, true] rfl rfl) (by decide) ?_
            refine pxU rfl (gOff 0 rfl rfl rfl (by decide)) (kM [true, true, true, false, true, true] rfl rfl) (by decide) ?_
            refine pxU rfl (gOff 0 rfl rfl rfl (by decide)) (kA rfl) (by decide) ?_
            refine pxV (v := (.bool true)) (fun _ _ hF => opPickT rfl (hF.ev 0 rfl) rfl) rfl (fun _ _ => rfl) (kM [false, true, true, true, true] rfl rfl) (by decide) ?_
            refine pxEnd ?_
            refine qxThen ?_
            refine cxT 0 rfl rfl ?_
            refine cxSeq ?_
            refine cxReg ?_
            refine pxV (v := (.slice none 0 0)) (fun _ _ hF => opMove rfl (hF.ev 2 rfl)) rfl (fun _ _ => rfl) (kM [false, true, false, false, false] rfl rfl) (by decide) ?_
            refine pxV (v := (.int .i64 2)) (fun _ _ hF => opMove rfl (hF.ev 1 rfl)) rfl (fun _ _ => rfl) (kM [true, false] rfl rfl) (by decide) ?_
            refine pxV (v := (.slice none 0 0)) (fun _ _ hF => opAssign rfl (hF.ev 1 rfl)) rfl (fun _ _ => rfl) (kM [true, false] rfl rfl) (by decide) ?_
            refine pxV (v := (.int .i64 2)) (fun _ _ hF => opAssign rfl (hF.ev 1 rfl)) rfl (fun _ _ => rfl) (kM [true, false] rfl rfl) (by decide) ?_
            refine pxEnd ?_
            refine qxThen ?_
            refine cxRet ?_
            refine qxInR ?_
            refine qxThenR ?_
            refine qxInR ?_
            refine qxRet2 1 0 rfl rfl rfl ?_
            have he := hf.trans (frs_few2 hform hl39 hf40)
            exact ⟨_, _, rfl, ⟨.slice none 0 0, _, [], (by rw [he]; first | done | rfl), rfl, (by rw [he]; exact OwnT.nil _ _), _, _, _, rfl, ((hS.trans hS7).trans hS48), (by rw [he]; intro h; cases h)⟩, HH.out (HH.pad hH 1) [true, true]⟩
          · refine cxReg ?_
            refine pxV (v := (.pointer (some ⟨g, 0, none⟩))) (fun _ _ hF => opMove rfl (hF.ev 5 rfl)) rfl (fun _ _ => rfl) (kM [false, true, true, true, true, true] rfl rfl) (by decide) ?_
            refine pxV (v := (.slice Ab body.length cb)) (fun _ _ hF => opMove rfl (hF.ev 3 rfl)) rfl (fun _ _ => rfl) (kM [true, true, true, false, true, true] rfl rfl) (by decide) ?_
            refine pxV (v := (.int .u64 ((((tkn b1).1) : Nat) : Int))) (fun _ _ hF => opMove rfl (hF.ev 3 rfl)) rfl (fun _ _ => rfl) (kM [true, true, true, false, true, true] rfl rfl) (by decide) ?_
            replace hH : HH w0 (bks ([bl g 43 #[.slice A b.length c]])) [([[bl g 43 #[(.slice A4 ((b1.drop (tkn b1).2.1).length) c5)]], Eb] : List Hl).flatten] w := hH.cast (by simp)
            refine pxE 0 hH rfl (fun _ hF => Does.small (ext_ok g c5 A4 (b1.drop (tkn b1).2.1) Ab cb body Eb hO (hH.off 0 rfl hV9 (by decide) hQ10) hbl ((tkn b1).1) (by omega) hl39 hf40) (fun w => opCall rfl Try.func31 rfl rfl (Evs.cons (v := (.pointer (some ⟨g, 0, none⟩))) (hF.ev 2 rfl) (Evs.cons (v := (.slice Ab body.length cb)) (hF.ev 1 rfl) (Evs.cons (v := (.int .u64 ((((tkn b1).1) : Nat) : Int))) (hF.ev 0 rfl) Evs.nil))) w)) (hH.vu hV9 (by decide) hQ10) rfl (fun _ _ => rfl) (kM [false, false, false, true, true, true] rfl rfl) (by decide) ?_
            clear hH
            rintro v58 _ w ⟨_, _, E54, rfl, rfl, hO55, A51, c52, rfl, hS53⟩ hH
            replace hH : HH w0 (bks ([bl g 43 #[.slice A b.length c]])) [([[bl g 43 #[.slice A51 ((b1.drop (tkn b1).2.1).drop ((tkn b1).1)).length c52]], E54] : List Hl).flatten] w := hH
            obtain ⟨A56, c57, rfl⟩ := hO55.slice
            replace hH : HH w0 (bks ([bl g 43 #[.slice A b.length c]])) [[bl g 43 #[(.slice A51 (((b1.drop (tkn b1).2.1).drop ((tkn b1).1)).length) c52)]], E54] w := hH.cast (by simp)
            obtain ⟨hV59, hQ60⟩ := hS53 w0 hV9
            replace hV59 : Vu cByte w0 A51 ((b1.drop (tkn b1).2.1).drop ((tkn b1).1)).length c52 ((b1.drop (tkn b1).2.1).drop ((tkn b1).1)) := hV59
            replace hQ60 := hQ60 _ hQ10
            refine pxV (v := (.tuple #[(.slice A56 ((body ++ (b1.drop (tkn b1).2.1).take ((tkn b1).1)).length) c57), (.int .i64 0)])) (fun _ _ hF => opMove rfl (hF.ev 0 rfl)) rfl (fun _ _ => rfl) (kM [false, true, true, true] rfl rfl) (by decide) ?_
            refine pxV (v := (.slice A56 ((body ++ (b1.drop (tkn b1).2.1).take ((tkn b1).1)).length) c57)) (fun _ _ hF => opExtract rfl (hF.ev 0 rfl) rfl) rfl (fun _ _ => rfl) (kA rfl) (by decide) ?_
            refine pxV (v := (.int .i64 0)) (fun _ _ hF => opExtract rfl (hF.ev 1 rfl) rfl) rfl (fun _ _ => rfl) (kM [true, false, true, true, true] rfl rfl) (by decide) ?_
            refine pxV (v := (.slice A56 ((body ++ (b1.drop (tkn b1).2.1).take ((tkn b1).1)).length) c57)) (fun _ _ hF => opAssign rfl (hF.ev 1 rfl)) rfl (fun _ _ => rfl) (kM [true, false, true, true, true] rfl rfl) (by decide) ?_
            refine pxV (v := (.int .i64 0)) (fun _ _ hF => opAssign rfl (hF.ev 1 rfl)) rfl (fun _ _ => rfl) (kM [true, false, true, true, true] rfl rfl) (by decide) ?_
            refine pxEnd ?_
            refine qxThen ?_
            refine cxSeq ?_
            refine cxReg ?_
            refine pxV (v := (.int .i64 0)) (fun _ _ hF => opMove rfl (hF.ev 0 rfl)) rfl (fun _ _ => rfl) (kA rfl) (by decide) ?_
            refine pxV (v := (.bool false)) (fun _ _ hF => opNeI rfl (hF.ev 0 rfl) rfl (by decide)) rfl (fun _ _ => rfl) (kM [false, true, true, true, true, true] rfl rfl) (by decide) ?_
            refine pxV (v := (.bool false)) (fun _ _ hF => opMove rfl (hF.ev 0 rfl)) rfl (fun _ _ => rfl) (kM [false, true, true, true, true, true] rfl rfl) (by decide) ?_
            refine pxV (v := (.bool ((tkn b1).2.2))) (fun _ _ hF => opMove rfl (hF.ev 3 rfl)) rfl (gOn 0 rfl rfl rfl (by decide)) (kM [true, true, true, false, true, true] rfl rfl) (by decide) ?_
            refine pxV (v := (.bool (!((tkn b1).2.2)))) (fun _ _ hF => opNot rfl (hF.ev 0 rfl) rfl) rfl (gOn 1 rfl rfl rfl (by decide)) (kM [false, true, true, true, true, true] rfl rfl) (by decide) ?_
            refine pxV (v := (.bool (!((tkn b1).2.2)))) (fun _ _ hF => opPickF rfl (hF.ev 1 rfl) (hF.ev 0 rfl)) rfl (fun _ _ => rfl) (kM [false, false, true, true, true, true] rfl rfl) (by decide) ?_
            refine pxEnd ?_
            refine qxThen ?_
            refine cxB 0 rfl rfl (fun hc61 => ?_) (fun hc61 => ?_)
            · replace hc61 : ((tkn b1).2.2) = false := by simpa using hc61
              rw [hg12] at hc61; cases hc61
            · replace hc61 : ((tkn b1).2.2) = true := by simpa using hc61
              refine cxSkip ?_
              refine qxInN ?_
              exact qxRound ((body ++ (b1.drop (tkn b1).2.1).take ((tkn b1).1)), A56, c57, E54, ((b1.drop (tkn b1).2.1).drop ((tkn b1).1)), A51, c52) ⟨hH, hO55, hV59, hQ60, ((hS.trans hS7).trans hS53), (by rw [hf]; exact frs_more2 hform hl39 hf40 hg12), (body_le hl39)⟩ (part_less hk11) (slots_at [2, 3, 4] rfl)
    · refine pxU rfl (gOff 0 rfl rfl rfl (by decide)) (kA rfl) (by decide) ?_
      refine pxU rfl (gOff 0 rfl rfl rfl (by decide)) (kA rfl) (by decide) ?_
      refine pxUK rfl (gOff 0 rfl rfl rfl (by decide)) (kA rfl) (by decide) ?_
      refine pxU rfl (gOffU 0 rfl rfl rfl) (kA rfl) (by decide) ?_
      refine pxU rfl (gOffU 0 rfl rfl rfl) (kA rfl) (by decide) ?_
      refine pxU rfl (gOffU 0 rfl rfl rfl) (kA rfl) (by decide) ?_
      refine pxUK rfl (gOffU 0 rfl rfl rfl) (kA rfl) (by decide) ?_
      refine pxU rfl (gOffU 0 rfl rfl rfl) (kA rfl) (by decide) ?_
      refine pxU rfl (gOffU 0 rfl rfl rfl) (kA rfl) (by decide) ?_
      refine pxU rfl (gOffU 1 rfl rfl rfl) (kM [false, true, true, true, true, true, true, true, true] rfl rfl) (by decide) ?_
      refine pxU rfl (gOff 1 rfl rfl rfl (by decide)) (kM [false, true, true, true, true, true, true, true] rfl rfl) (by decide) ?_
      refine pxV (v := (.bool false)) (fun _ _ hF => opPickF rfl (hF.ev 0 rfl) rfl) rfl (gOn 1 rfl rfl rfl (by decide)) (kM [false, true, true, true, true, true, true] rfl rfl) (by decide) ?_
      refine pxV (v := (.bool false)) (fun _ _ hF => opPickF rfl (hF.ev 1 rfl) (hF.ev 0 rfl)) rfl (fun _ _ => rfl) (kM [false, false, true, true, true, true, true] rfl rfl) (by decide) ?_
      refine pxEnd ?_
      refine qxThen ?_
      refine cxF 0 rfl rfl ?_
      refine cxSkip ?_
      refine qxThen ?_
      refine cxSeq ?_
      refine cxReg ?_
      refine pxV (v := (.int .i64 0)) (fun _ _ hF => opAssign rfl rfl) rfl (fun _ _ => rfl) (kM [false, true, true, true, true, true] rfl rfl) (by decide) ?_
      refine pxEnd ?_
      refine qxThen ?_
      refine cxSeq ?_
      have hform := frs_not (may := may) (body := body) hk11 (.inl hg12)
      rcases (show (20000 < body.length + (tkn b1).1) ∨ (body.length + (tkn b1).1 ≤ 20000 ∧ (b1.drop (tkn b1).2.1).length < (tkn b1).1) ∨ (body.length + (tkn b1).1 ≤ 20000 ∧ (tkn b1).1 ≤ (b1.drop (tkn b1).2.1).length) by omega) with hl62 | ⟨hl62, hf63⟩ | ⟨hl62, hf63⟩
      · refine cxReg ?_
        refine pxV (v := (.pointer (some ⟨g, 0, none⟩))) (fun _ _ hF => opMove rfl (hF.ev 5 rfl)) rfl (fun _ _ => rfl) (kM [false, true, true, true, true, true] rfl rfl) (by decide) ?_
        refine pxV (v := (.slice Ab body.length cb)) (fun _ _ hF => opMove rfl (hF.ev 3 rfl)) rfl (fun _ _ => rfl) (kM [true, true, true, false, true, true] rfl rfl) (by decide) ?_
        refine pxV (v := (.int .u64 ((((tkn b1).1) : Nat) : Int))) (fun _ _ hF => opMove rfl (hF.ev 3 rfl)) rfl (fun _ _ => rfl) (kM [true, true, true, false, true, true] rfl rfl) (by decide) ?_
        replace hH : HH w0 (bks ([bl g 43 #[.slice A b.length c]])) [([[bl g 43 #[(.slice A4 ((b1.drop (tkn b1).2.1).length) c5)]], Eb] : List Hl).flatten] w := hH.cast (by simp)
        refine pxE 0 hH rfl (fun _ hF => Does.small (ext_long g c5 A4 (b1.drop (tkn b1).2.1) Ab cb body Eb hO (hH.off 0 rfl hV9 (by decide) hQ10) hbl ((tkn b1).1) (by omega) hl62) (fun w => opCall rfl Try.func31 rfl rfl (Evs.cons (v := (.pointer (some ⟨g, 0, none⟩))) (hF.ev 2 rfl) (Evs.cons (v := (.slice Ab body.length cb)) (hF.ev 1 rfl) (Evs.cons (v := (.int .u64 ((((tkn b1).1) : Nat) : Int))) (hF.ev 0 rfl) Evs.nil))) w)) (hH.vu hV9 (by decide) hQ10) rfl (fun _ _ => rfl) (kM [false, false, false, true, true, true] rfl rfl) (by decide) ?_
        clear hH
        rintro _ _ w ⟨rfl, A64, c65, rfl, hS66⟩ hH
        obtain ⟨hV67, hQ68⟩ := hS66 w0 hV9
        replace hV67 : Vu cByte w0 A64 (b1.drop (tkn b1).2.1).length c65 (b1.drop (tkn b1).2.1) := hV67
        replace hQ68 := hQ68 _ hQ10
        replace hH : HH w0 (bks ([bl g 43 #[.slice A b.length c]])) [[bl g 43 #[(.slice A64 ((b1.drop (tkn b1).2.1).length) c65)]]] w := hH
        refine pxV (v := (.tuple #[(.slice none 0 0), (.int .i64 6)])) (fun _ _ hF => opMove rfl (hF.ev 0 rfl)) rfl (fun _ _ => rfl) (kM [false, true, true, true] rfl rfl) (by decide) ?_
        refine pxV (v := (.slice none 0 0)) (fun _ _ hF => opExtract rfl (hF.ev 0 rfl) rfl) rfl (fun _ _ => rfl) (kA rfl) (by decide) ?_
        refine pxV (v := (.int .i64 6)) (fun _ _ hF => opExtract rfl (hF.ev 1 rfl) rfl) rfl (fun _ _ => rfl) (kM [true, false, true, true, true] rfl rfl) (by decide) ?_
        refine pxV (v := (.slice none 0 0)) (fun _ _ hF => opAssign rfl (hF.ev 1 rfl)) rfl (fun _ _ => rfl) (kM [true, false, true, true, true] rfl rfl) (by decide) ?_
        refine pxV (v := (.int .i64 6)) (fun _ _ hF => opAssign rfl (hF.ev 1 rfl)) rfl (fun _ _ => rfl) (kM [true, false, true, true, true] rfl rfl) (by decide) ?_
        refine pxEnd ?_
        refine qxThen ?_
        refine cxSeq ?_
        refine cxReg ?_
        refine pxV (v := (.int .i64 6)) (fun _ _ hF => opMove rfl (hF.ev 0 rfl)) rfl (fun _ _ => rfl) (kA rfl) (by decide) ?_
        refine pxV (v := (.bool true)) (fun _ _ hF => opNeI rfl (hF.ev 0 rfl) rfl (by decide)) rfl (fun _ _ => rfl) (kM [false, true, true, true, true, true] rfl rfl) (by decide) ?_
        refine pxV (v := (.bool true)) (fun _ _ hF => opMove rfl (hF.ev 0 rfl)) rfl (fun _ _ => rfl) (kM [false, true, true, true, true, true] rfl rfl) (by decide) ?_
        refine pxU rfl (gOff 0 rfl rfl rfl (by decide)) (kM [true, true, true, false, true, true] rfl rfl) (by decide) ?_
        refine pxU rfl (gOff 0 rfl rfl rfl (by decide)) (kA rfl) (by decide) ?_
        refine pxV (v := (.bool true)) (fun _ _ hF => opPickT rfl (hF.ev 0 rfl) rfl) rfl (fun _ _ => rfl) (kM [false, true, true, true, true] rfl rfl) (by decide) ?_
        refine pxEnd ?_
        refine qxThen ?_
        refine cxT 0 rfl rfl ?_
        refine cxSeq ?_
        refine cxReg ?_
        refine pxV (v := (.slice none 0 0)) (fun _ _ hF => opMove rfl (hF.ev 2 rfl)) rfl (fun _ _ => rfl) (kM [false, true, false, false, false] rfl rfl) (by decide) ?_
        refine pxV (v := (.int .i64 6)) (fun _ _ hF => opMove rfl (hF.ev 1 rfl)) rfl (fun _ _ => rfl) (kM [true, false] rfl rfl) (by decide) ?_
        refine pxV (v := (.slice none 0 0)) (fun _ _ hF => opAssign rfl (hF.ev 1 rfl)) rfl (fun _ _ => rfl) (kM [true, false] rfl rfl) (by decide) ?_
        refine pxV (v := (.int .i64 6)) (fun _ _ hF => opAssign rfl (hF.ev 1 rfl)) rfl (fun _ _ => rfl) (kM [true, false] rfl rfl) (by decide) ?_
        refine pxEnd ?_
        refine qxThen ?_
        refine cxRet ?_
        refine qxInR ?_
        refine qxThenR ?_
        refine qxInR ?_
        refine qxRet2 1 0 rfl rfl rfl ?_
        have he := hf.trans (frs_long hform hl62)
        exact ⟨_, _, rfl, ⟨.slice none 0 0, _, [], (by rw [he]; first | done | rfl), rfl, (by rw [he]; exact OwnT.nil _ _), _, _, _, rfl, ((hS.trans hS7).trans hS66), (by rw [he]; intro h; cases h)⟩, HH.out (HH.pad hH 1) [true, true]⟩
      · refine cxReg ?_
        refine pxV (v := (.pointer (some ⟨g, 0, none⟩))) (fun _ _ hF => opMove rfl (hF.ev 5 rfl)) rfl (fun _ _ => rfl) (kM [false, true, true, true, true, true] rfl rfl) (by decide) ?_
        refine pxV (v := (.slice Ab body.length cb)) (fun _ _ hF => opMove rfl (hF.ev 3 rfl)) rfl (fun _ _ => rfl) (kM [true, true, true, false, true, true] rfl rfl) (by decide) ?_
        refine pxV (v := (.int .u64 ((((tkn b1).1) : Nat) : Int))) (fun _ _ hF => opMove rfl (hF.ev 3 rfl)) rfl (fun _ _ => rfl) (kM [true, true, true, false, true, true] rfl rfl) (by decide) ?_
        replace hH : HH w0 (bks ([bl g 43 #[.slice A b.length c]])) [([[bl g 43 #[(.slice A4 ((b1.drop (tkn b1).2.1).length) c5)]], Eb] : List Hl).flatten] w := hH.cast (by simp)
        refine pxE 0 hH rfl (fun _ hF => Does.small (ext_few g c5 A4 (b1.drop (tkn b1).2.1) Ab cb body Eb hO (hH.off 0 rfl hV9 (by decide) hQ10) hbl ((tkn b1).1) (by omega) hl62 hf63) (fun w => opCall rfl Try.func31 rfl rfl (Evs.cons (v := (.pointer (some ⟨g, 0, none⟩))) (hF.ev 2 rfl) (Evs.cons (v := (.slice Ab body.length cb)) (hF.ev 1 rfl) (Evs.cons (v := (.int .u64 ((((tkn b1).1) : Nat) : Int))) (hF.ev 0 rfl) Evs.nil))) w)) (hH.vu hV9 (by decide) hQ10) rfl (fun _ _ => rfl) (kM [false, false, false, true, true, true] rfl rfl) (by decide) ?_
        clear hH
        rintro _ _ w ⟨rfl, A69, c70, rfl, hS71⟩ hH
        obtain ⟨hV72, hQ73⟩ := hS71 w0 hV9
        replace hV72 : Vu cByte w0 A69 (b1.drop (tkn b1).2.1).length c70 (b1.drop (tkn b1).2.1) := hV72
        replace hQ73 := hQ73 _ hQ10
        replace hH : HH w0 (bks ([bl g 43 #[.slice A b.length c]])) [[bl g 43 #[(.slice A69 ((b1.drop (tkn b1).2.1).length) c70)]]] w := hH
        refine pxV (v := (.tuple #[(.slice none 0 0), (.int .i64 2)])) (fun _ _ hF => opMove rfl (hF.ev 0 rfl)) rfl (fun _ _ => rfl) (kM [false, true, true, true] rfl rfl) (by decide) ?_
        refine pxV (v := (.slice none 0 0)) (fun _ _ hF => opExtract rfl (hF.ev 0 rfl) rfl) rfl (fun _ _ => rfl) (kA rfl) (by decide) ?_
        refine pxV (v := (.int .i64 2)) (fun _ _ hF => opExtract rfl (hF.ev 1 rfl) rfl) rfl (fun _ _ => rfl) (kM [true, false, true, true, true] rfl rfl) (by decide) ?_
        refine pxV (v := (.slice none 0 0)) (fun _ _ hF => opAssign rfl (hF.ev 1 rfl)) rfl (fun _ _ => rfl) (kM [true, false, true, true, true] rfl rfl) (by decide) ?_
        refine pxV (v := (.int .i64 2)) (fun _ _ hF => opAssign rfl (hF.ev 1 rfl)) rfl (fun _ _ => rfl) (kM [true, false, true, true, true] rfl rfl) (by decide) ?_
        refine pxEnd ?_
        refine qxThen ?_
        refine cxSeq ?_
        refine cxReg ?_
        refine pxV (v := (.int .i64 2)) (fun _ _ hF => opMove rfl (hF.ev 0 rfl)) rfl (fun _ _ => rfl) (kA rfl) (by decide) ?_
        refine pxV (v := (.bool true)) (fun _ _ hF => opNeI rfl (hF.ev 0 rfl) rfl (by decide)) rfl (fun _ _ => rfl) (kM [false, true, true, true, true, true] rfl rfl) (by decide) ?_
        refine pxV (v := (.bool true)) (fun _ _ hF => opMove rfl (hF.ev 0 rfl)) rfl (fun _ _ => rfl) (kM [false, true, true, true, true, true] rfl rfl) (by decide) ?_
        refine pxU rfl (gOff 0 rfl rfl rfl (by decide)) (kM [true, true, true, false, true, true] rfl rfl) (by decide) ?_
        refine pxU rfl (gOff 0 rfl rfl rfl (by decide)) (kA rfl) (by decide) ?_
        refine pxV (v := (.bool true)) (fun _ _ hF => opPickT rfl (hF.ev 0 rfl) rfl) rfl (fun _ _ => rfl) (kM [false, true, true, true, true] rfl rfl) (by decide) ?_
        refine pxEnd ?_
        refine qxThen ?_
        refine cxT 0 rfl rfl ?_
        refine cxSeq ?_
        refine cxReg ?_
        refine pxV (v := (.slice none 0 0)) (fun _ _ hF => opMove rfl (hF.ev 2 rfl)) rfl (fun _ _ => rfl) (kM [false, true, false, false, false] rfl rfl) (by decide) ?_
        refine pxV (v := (.int .i64 2)) (fun _ _ hF => opMove rfl (hF.ev 1 rfl)) rfl (fun _ _ => rfl) (kM [true, false] rfl rfl) (by decide) ?_
        refine pxV (v := (.slice none 0 0)) (fun _ _ hF => opAssign rfl (hF.ev 1 rfl)) rfl (fun _ _ => rfl) (kM [true, false] rfl rfl) (by decide) ?_
        refine pxV (v := (.int .i64 2)) (fun _ _ hF => opAssign rfl (hF.ev 1 rfl)) rfl (fun _ _ => rfl) (kM [true, false] rfl rfl) (by decide) ?_
        refine pxEnd ?_
        refine qxThen ?_
        refine cxRet ?_
        refine qxInR ?_
        refine qxThenR ?_
        refine qxInR ?_
        refine qxRet2 1 0 rfl rfl rfl ?_
        have he := hf.trans (frs_few2 hform hl62 hf63)
        exact ⟨_, _, rfl, ⟨.slice none 0 0, _, [], (by rw [he]; first | done | rfl), rfl, (by rw [he]; exact OwnT.nil _ _), _, _, _, rfl, ((hS.trans hS7).trans hS71), (by rw [he]; intro h; cases h)⟩, HH.out (HH.pad hH 1) [true, true]⟩
      · refine cxReg ?_
        refine pxV (v := (.pointer (some ⟨g, 0, none⟩))) (fun _ _ hF => opMove rfl (hF.ev 5 rfl)) rfl (fun _ _ => rfl) (kM [false, true, true, true, true, true] rfl rfl) (by decide) ?_
        refine pxV (v := (.slice Ab body.length cb)) (fun _ _ hF => opMove rfl (hF.ev 3 rfl)) rfl (fun _ _ => rfl) (kM [true, true, true, false, true, true] rfl rfl) (by decide) ?_
        refine pxV (v := (.int .u64 ((((tkn b1).1) : Nat) : Int))) (fun _ _ hF => opMove rfl (hF.ev 3 rfl)) rfl (fun _ _ => rfl) (kM [true, true, true, false, true, true] rfl rfl) (by decide) ?_
        replace hH : HH w0 (bks ([bl g 43 #[.slice A b.length c]])) [([[bl g 43 #[(.slice A4 ((b1.drop (tkn b1).2.1).length) c5)]], Eb] : List Hl).flatten] w := hH.cast (by simp)
        refine pxE 0 hH rfl (fun _ hF => Does.small (ext_ok g c5 A4 (b1.drop (tkn b1).2.1) Ab cb body Eb hO (hH.off 0 rfl hV9 (by decide) hQ10) hbl ((tkn b1).1) (by omega) hl62 hf63) (fun w => opCall rfl Try.func31 rfl rfl (Evs.cons (v := (.pointer (some ⟨g, 0, none⟩))) (hF.ev 2 rfl) (Evs.cons (v := (.slice Ab body.length cb)) (hF.ev 1 rfl) (Evs.cons (v := (.int .u64 ((((tkn b1).1) : Nat) : Int))) (hF.ev 0 rfl) Evs.nil))) w)) (hH.vu hV9 (by decide) hQ10) rfl (fun _ _ => rfl) (kM [false, false, false, true, true, true] rfl rfl) (by decide) ?_
        clear hH
        rintro v81 _ w ⟨_, _, E77, rfl, rfl, hO78, A74, c75, rfl, hS76⟩ hH
        replace hH : HH w0 (bks ([bl g 43 #[.slice A b.length c]])) [([[bl g 43 #[.slice A74 ((b1.drop (tkn b1).2.1).drop ((tkn b1).1)).length c75]], E77] : List Hl).flatten] w := hH
        obtain ⟨A79, c80, rfl⟩ := hO78.slice
        replace hH : HH w0 (bks ([bl g 43 #[.slice A b.length c]])) [[bl g 43 #[(.slice A74 (((b1.drop (tkn b1).2.1).drop ((tkn b1).1)).length) c75)]], E77] w := hH.cast (by simp)
        obtain ⟨hV82, hQ83⟩ := hS76 w0 hV9
        replace hV82 : Vu cByte w0 A74 ((b1.drop (tkn b1).2.1).drop ((tkn b1).1)).length c75 ((b1.drop (tkn b1).2.1).drop ((tkn b1).1)) := hV82
        replace hQ83 := hQ83 _ hQ10
        refine pxV (v := (.tuple #[(.slice A79 ((body ++ (b1.drop (tkn b1).2.1).take ((tkn b1).1)).length) c80), (.int .i64 0)])) (fun _ _ hF => opMove rfl (hF.ev 0 rfl)) rfl (fun _ _ => rfl) (kM [false, true, true, true] rfl rfl) (by decide) ?_
        refine pxV (v := (.slice A79 ((body ++ (b1.drop (tkn b1).2.1).take ((tkn b1).1)).length) c80)) (fun _ _ hF => opExtract rfl (hF.ev 0 rfl) rfl) rfl (fun _ _ => rfl) (kA rfl) (by decide) ?_
        refine pxV (v := (.int .i64 0)) (fun _ _ hF => opExtract rfl (hF.ev 1 rfl) rfl) rfl (fun _ _ => rfl) (kM [true, false, true, true, true] rfl rfl) (by decide) ?_
        refine pxV (v := (.slice A79 ((body ++ (b1.drop (tkn b1).2.1).take ((tkn b1).1)).length) c80)) (fun _ _ hF => opAssign rfl (hF.ev 1 rfl)) rfl (fun _ _ => rfl) (kM [true, false, true, true, true] rfl rfl) (by decide) ?_
        refine pxV (v := (.int .i64 0)) (fun _ _ hF => opAssign rfl (hF.ev 1 rfl)) rfl (fun _ _ => rfl) (kM [true, false, true, true, true] rfl rfl) (by decide) ?_
        refine pxEnd ?_
        refine qxThen ?_
        refine cxSeq ?_
        refine cxReg ?_
        refine pxV (v := (.int .i64 0)) (fun _ _ hF => opMove rfl (hF.ev 0 rfl)) rfl (fun _ _ => rfl) (kA rfl) (by decide) ?_
        refine pxV (v := (.bool false)) (fun _ _ hF => opNeI rfl (hF.ev 0 rfl) rfl (by decide)) rfl (fun _ _ => rfl) (kM [false, true, true, true, true, true] rfl rfl) (by decide) ?_
        refine pxV (v := (.bool false)) (fun _ _ hF => opMove rfl (hF.ev 0 rfl)) rfl (fun _ _ => rfl) (kM [false, true, true, true, true, true] rfl rfl) (by decide) ?_
        refine pxV (v := (.bool ((tkn b1).2.2))) (fun _ _ hF => opMove rfl (hF.ev 3 rfl)) rfl (gOn 0 rfl rfl rfl (by decide)) (kM [true, true, true, false, true, true] rfl rfl) (by decide) ?_
        refine pxV (v := (.bool (!((tkn b1).2.2)))) (fun _ _ hF => opNot rfl (hF.ev 0 rfl) rfl) rfl (gOn 1 rfl rfl rfl (by decide)) (kM [false, true, true, true, true, true] rfl rfl) (by decide) ?_
        refine pxV (v := (.bool (!((tkn b1).2.2)))) (fun _ _ hF => opPickF rfl (hF.ev 1 rfl) (hF.ev 0 rfl)) rfl (fun _ _ => rfl) (kM [false, false, true, true, true, true] rfl rfl) (by decide) ?_
        refine pxEnd ?_
        refine qxThen ?_
        refine cxB 0 rfl rfl (fun hc84 => ?_) (fun hc84 => ?_)
        · replace hc84 : ((tkn b1).2.2) = false := by simpa using hc84
          refine cxSeq ?_
          refine cxReg ?_
          refine pxV (v := (.slice A79 ((body ++ (b1.drop (tkn b1).2.1).take ((tkn b1).1)).length) c80)) (fun _ _ hF => opMove rfl (hF.ev 2 rfl)) rfl (fun _ _ => rfl) (kM [false, true, false, false, false] rfl rfl) (by decide) ?_
          refine pxV (v := (.int .i64 0)) (fun _ _ hF => opMove rfl (hF.ev 1 rfl)) rfl (fun _ _ => rfl) (kM [true, false] rfl rfl) (by decide) ?_
          refine pxV (v := (.slice A79 ((body ++ (b1.drop (tkn b1).2.1).take ((tkn b1).1)).length) c80)) (fun _ _ hF => opAssign rfl (hF.ev 1 rfl)) rfl (fun _ _ => rfl) (kM [true, false] rfl rfl) (by decide) ?_
          refine pxV (v := (.int .i64 0)) (fun _ _ hF => opAssign rfl (hF.ev 1 rfl)) rfl (fun _ _ => rfl) (kM [true, false] rfl rfl) (by decide) ?_
          refine pxEnd ?_
          refine qxThen ?_
          refine cxRet ?_
          refine qxInR ?_
          refine qxThenR ?_
          refine qxInR ?_
          refine qxRet2 1 0 rfl rfl rfl ?_
          have he := hf.trans (frs_last2 hform hl62 hf63 hg12)
          exact ⟨_, _, rfl, ⟨(.slice A79 ((body ++ (b1.drop (tkn b1).2.1).take ((tkn b1).1)).length) c80), _, _, (by rw [he]; first | done | rfl), rfl, (by rw [he]; exact hO78), _, _, _, rfl, ((hS.trans hS7).trans hS76), (by rw [he]; intro _; rfl)⟩, hH.out [true, true]⟩
        · replace hc84 : ((tkn b1).2.2) = true := by simpa using hc84
          rw [hg12] at hc84; cases hc84
  · refine cxReg ?_
    refine pxV (v := (.bool false)) (fun _ _ hF => opMove rfl (hF.ev 0 rfl)) rfl (fun _ _ => rfl) (kM [false, true, true, true, true, true] rfl rfl) (by decide) ?_
    refine pxV (v := (.bool true)) (fun _ _ hF => opNot rfl (hF.ev 0 rfl) rfl) rfl (fun _ _ => rfl) (kM [false, true, true, true, true, true] rfl rfl) (by decide) ?_
    refine pxV (v := (.bool true)) (fun _ _ hF => opMove rfl (hF.ev 0 rfl)) rfl (fun _ _ => rfl) (kM [false, true, true, true, true, true] rfl rfl) (by decide) ?_
    refine pxU rfl (gOff 0 rfl rfl rfl (by decide)) (kA rfl) (by decide) ?_
    refine pxUK rfl (gOff 0 rfl rfl rfl (by decide)) (kA rfl) (by decide) ?_
    refine pxU rfl (gOffU 0 rfl rfl rfl) (kA rfl) (by decide) ?_
    refine pxU rfl (gOffU 0 rfl rfl rfl) (kA rfl) (by decide) ?_
    refine pxUK rfl (gOffU 0 rfl rfl rfl) (kA rfl) (by decide) ?_
    refine pxU rfl (gOffU 0 rfl rfl rfl) (kA rfl) (by decide) ?_
    refine pxU rfl (gOffU 0 rfl rfl rfl) (kA rfl) (by decide) ?_
    refine pxU rfl (gOffU 0 rfl rfl rfl) (kA rfl) (by decide) ?_
    refine pxUK rfl (gOffU 0 rfl rfl rfl) (kA rfl) (by decide) ?_
    refine pxU rfl (gOffU 0 rfl rfl rfl) (kA rfl) (by decide) ?_
    refine pxU rfl (gOffU 0 rfl rfl rfl) (kA rfl) (by decide) ?_
    refine pxU rfl (gOffU 1 rfl rfl rfl) (kM [false, true, true, true, true, true, true, true, true] rfl rfl) (by decide) ?_
    refine pxU rfl (gOffU 1 rfl rfl rfl) (kM [false, true, true, true, true, true, true, true] rfl rfl) (by decide) ?_
    refine pxU rfl (gOff 1 rfl rfl rfl (by decide)) (kM [false, true, true, true, true, true, true] rfl rfl) (by decide) ?_
    refine pxV (v := (.bool true)) (fun _ _ hF => opPickT rfl (hF.ev 0 rfl) rfl) rfl (fun _ _ => rfl) (kM [false, true, true, true, true, true] rfl rfl) (by decide) ?_
    refine pxEnd ?_
    refine qxThen ?_
    refine cxT 0 rfl rfl ?_
    refine cxSeq ?_
    refine cxReg ?_
    refine pxV (v := (.slice none 0 0)) (fun _ _ hF => opAssign rfl rfl) rfl (fun _ _ => rfl) (kM [false, false, false, false, false, false] rfl rfl) (by decide) ?_
    refine pxV (v := (.int .i64 2)) (fun _ _ hF => opAssign rfl rfl) rfl (fun _ _ => rfl) (kA rfl) (by decide) ?_
    refine pxEnd ?_
    refine qxThen ?_
    refine cxRet ?_
    refine qxThenR ?_
    refine qxInR ?_
    refine qxThenR ?_
    refine qxInR ?_
    refine qxRet2 1 0 rfl rfl rfl ?_
    have he := hf.trans (frs_form (may := may) (body := body) (.inl hk11))
    exact ⟨_, _, rfl, ⟨.slice none 0 0, _, [], (by rw [he]; first | done | rfl), rfl, (by rw [he]; exact OwnT.nil _ _), _, _, _, rfl, (hS.trans hS7), (by rw [he]; intro h; cases h)⟩, HH.out (HH.pad hH 1) [true, false, true]⟩
end Go.Proofs.Ytjncbpmigpocbaa
