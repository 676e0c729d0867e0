/- The program's body. -/
import Derived.Test.YtadbpmcmdcnlfaaDoorArK
import Derived.Test.YtadbpmcmdcnlfaaDoorArW
namespace Go.Proofs.YtadbpmcmdcnlfaaDoor
open Go Go.RowKit
set_option maxRecDepth 100000

/-- What body answers. -/
def BdPost (g : Nat) (s : List UInt8) (r : BdR) (v : Value) (E' : Hl) : Prop :=
  ∃ (s' : List UInt8) (A : Option Addr) (c : Nat) (F : Hl), v = .tuple #[.slice A (bA r).length c, .string (strL (bl' r)), .bool (bok r)] ∧ E' = ([[bl g 56 #[.string (strL s')]], F] : List Hl).flatten ∧ OwnT cByte 5 (.slice A (bA r).length c) (bA r) F ∧ s'.length ≤ s.length ∧ (bl' r).length ≤ s.length ∧ (bA r).length ≤ s.length ∧ (bok r = true → lns s' = bLs r)
theorem bd_none {g : Nat} {s s' : List UInt8} (h : s'.length ≤ s.length) : BdPost g s none (.tuple #[.slice none 0 0, .string (strL []), .bool false]) ([bl g 56 #[.string (strL s')]] : Hl) := ⟨s', none, 0, [], rfl, by simp, OwnT.nil _ _, h, Nat.zero_le _, Nat.zero_le _, fun h => by cases h⟩
theorem bd_some {g : Nat} {s s' a l : List UInt8} {A : Option Addr} {c : Nat} {F : Hl} (h : s'.length ≤ s.length) (hl : l.length ≤ s.length) (ha : a.length ≤ s.length) (hO : OwnT cByte 5 (.slice A ((unP a).getD []).length c) ((unP a).getD []) F) : BdPost g s (some (a, l, lns s')) (.tuple #[.slice A ((unP a).getD []).length c, .string (strL l), .bool (unP a).isSome]) ([[bl g 56 #[.string (strL s')]], F] : List Hl).flatten := ⟨s', A, c, F, rfl, rfl, hO, h, hl, Nat.le_trans (unP_le a) ha, fun _ => rfl⟩

theorem ers_ok (r : Option (List UInt8)) : decide (((ers r : Nat) : Int) = 0) = r.isSome := by cases r <;> rfl
theorem q_ne {q : List UInt8} (h : stopL (rdL q) = false) : q ≠ [] := by rintro rfl; cases h

set_option maxHeartbeats 8000000 in
theorem body_c (g : Nat) (s : List UInt8) (hs : s.length ≤ 4294967280) : Does Tryd.prog 29 #[(.pointer (some ⟨g, 0, none⟩))] [bl g 56 #[.string (strL s)]] (fun _ => True) (fun v E' => BdPost g s (bdL [] (lns s)) v E') := by
  refine does_of (fn := Tryd.f29) Tryd.func29 rfl Tryd.ntmps29 (Nat.le_of_ble_eq_true rfl) rfl ?_
  intro w0 hH hR
  refine cxSeq ?_
  refine cxReg ?_
  refine pxV (v := (.slice none 0 0)) (fun _ _ hF => opAssign rfl rfl) rfl (fun _ _ => rfl) (kA rfl) (by decide) ?_
  refine pxV (v := (.string (strL ([])))) (fun _ _ hF => opAssign rfl rfl) rfl (fun _ _ => rfl) (kM [false, true] rfl rfl) (by decide) ?_
  refine pxV (v := (.bool false)) (fun _ _ hF => opAssign rfl rfl) rfl (fun _ _ => rfl) (kM [false, true] rfl rfl) (by decide) ?_
  refine pxEnd ?_
  refine qxThen ?_
  refine cxSeq ?_
  refine cxReg ?_
  refine pxM hH (fun _ hF => smAlloc (z := (.agg #[(.pointer none), (.slice none 0 0)])) rfl (by kernel_rfl) rfl) trivial rfl (fun _ _ => rfl) (kM [false, true] rfl rfl) (by decide) ?_
  clear hH
  rintro _ _ w ⟨g1, rfl, rfl⟩ hH
  replace hH : HH w0 (bks ([bl g 56 #[.string (strL s)]])) [[bl g 56 #[(.string (strL s))]], [bl g1 43 #[(.pointer none), (.slice none 0 0)]]] w := hH
  refine pxEnd ?_
  refine qxThen ?_
  refine cxBlock ?_
  obtain ⟨E2, hE3, hB4⟩ : ∃ E, E = [bl g1 43 #[(.pointer none), (.slice none 0 0)]] ∧ BuAt 43 5 g1 ([]) E := ⟨_, rfl, BuAt.new _ _ _⟩
  replace hH : HH w0 (bks ([bl g 56 #[.string (strL s)]])) [[bl g 56 #[(.string (strL s))]], E2] w := hH.cast (by rw [hE3])
  refine cxLoop (σ := (List UInt8) × (List UInt8) × Hl) (fun x => [(5, (.pointer (some ⟨g1, 0, none⟩))), (0, (.pointer (some ⟨g, 0, none⟩)))]) (fun x w => HH w0 (bks ([bl g 56 #[.string (strL s)]])) [[bl g 56 #[(.string (strL x.1))]], x.2.2] w ∧ (bdL x.2.1 (lns x.1) = bdL [] (lns s)) ∧ (x.2.1.length + x.1.length ≤ s.length) ∧ (BuAt 43 5 g1 x.2.1 x.2.2)) (fun x => x.1.length) (s, [], E2) ⟨hH, rfl, Nat.le_of_eq (Nat.zero_add _), hB4⟩ (slots_at [0, 1] rfl) ?_
  clear hH
  rintro ⟨q, o, E1⟩ w ⟨hH, hbd, hlen, hB⟩
  change CX _ _ _ _ [(5, (.pointer (some ⟨g1, 0, none⟩))), (0, (.pointer (some ⟨g, 0, none⟩)))] _
  replace hH : HH w0 (bks ([bl g 56 #[.string (strL s)]])) [[bl g 56 #[(.string (strL q))]], E1] w := hH
  replace hbd : bdL o (lns q) = bdL [] (lns s) := hbd
  replace hlen : o.length + q.length ≤ s.length := hlen
  replace hB : BuAt 43 5 g1 o E1 := hB
  refine cxBlock ?_
  refine cxSeq ?_
  refine cxReg ?_
  refine pxV (v := (.pointer (some ⟨g, 0, none⟩))) (fun _ _ hF => opMove rfl (hF.ev 1 rfl)) rfl (fun _ _ => rfl) (kA rfl) (by decide) ?_
  refine pxE 0 hH rfl (fun _ hF => Does.small (line_c g q (by omega)) (fun w => opCall rfl Tryd.func27 rfl rfl (Evs.cons (v := (.pointer (some ⟨g, 0, none⟩))) (hF.ev 0 rfl) Evs.nil) w)) trivial rfl (fun _ _ => rfl) (kM [false, true, true] rfl rfl) (by decide) ?_
  clear hH
  rintro _ _ w ⟨rfl, rfl⟩ hH
  replace hH : HH w0 (bks ([bl g 56 #[.string (strL s)]])) [[bl g 56 #[(.string (strL (rdR q)))]], E1] w := hH
  refine pxV (v := (.string (strL (rdL q)))) (fun _ _ hF => opAssign rfl (hF.ev 0 rfl)) rfl (fun _ _ => rfl) (kM [false, true, true] rfl rfl) (by decide) ?_
  refine pxEnd ?_
  refine qxThen ?_
  refine cxSeq ?_
  refine cxSeq ?_
  refine cxRegX mixedOrders (by kernel_rfl) ?_
  replace hH := hH.drew
  refine rxV 0 rfl (by kernel_rfl) rfl (fun _ _ => rfl) (fun _ _ hF => opMove rfl (hF.ev 0 rfl)) (kA rfl) (by decide) (v := (.string (strL (rdL q)))) ?_
  refine rxV 1 rfl (by kernel_rfl) rfl (fun _ _ => rfl) (fun _ _ hF => opEqL (l := (rdL q)) (m := []) rfl (hF.ev 0 rfl) rfl Iff.rfl) (kM [false, true, true, true] rfl rfl) (by decide) (v := (.bool (decide ((rdL q) = [])))) ?_
  refine rxV 2 rfl (by kernel_rfl) rfl (fun _ _ => rfl) (fun _ _ hF => opMove rfl (hF.ev 0 rfl)) (kM [false, true, true, true] rfl rfl) (by decide) (v := (.bool (decide ((rdL q) = [])))) ?_
  refine rxSplitP 0 rfl (l1 := [(13, (.bool true)), (6, (.string (strL (rdL q)))), (5, (.pointer (some ⟨g1, 0, none⟩))), (0, (.pointer (some ⟨g, 0, none⟩)))]) (l2 := [(13, (.bool false)), (6, (.string (strL (rdL q)))), (5, (.pointer (some ⟨g1, 0, none⟩))), (0, (.pointer (some ⟨g, 0, none⟩)))]) rfl rfl (fun hg5 => ?_) (fun hg5 => ?_)
  · refine rxU 3 rfl (by kernel_rfl) rfl (gOff 0 rfl rfl rfl (by decide)) (kA rfl) (by decide) ?_
    refine rxU 4 rfl (by kernel_rfl) rfl (gOff 0 rfl rfl rfl (by decide)) (kA rfl) (by decide) ?_
    refine rxU 5 rfl (by kernel_rfl) rfl (gOff 0 rfl rfl rfl (by decide)) (kA rfl) (by decide) ?_
    refine rxU 6 rfl (by kernel_rfl) rfl (gOff 0 rfl rfl rfl (by decide)) (kA rfl) (by decide) ?_
    refine rxV 7 rfl (by kernel_rfl) rfl (fun _ _ => rfl) (fun _ _ hF => opPickT rfl (hF.ev 0 rfl) rfl) (kM [false, true, true, true] rfl rfl) (by decide) (v := (.bool true)) ?_
    refine rxV 8 rfl (by kernel_rfl) rfl (fun _ _ => rfl) (fun _ _ hF => opMove rfl (hF.ev 0 rfl)) (kM [false, true, true, true] rfl rfl) (by decide) (v := (.bool true)) ?_
    refine rxU 9 rfl (by kernel_rfl) rfl (gOff 0 rfl rfl rfl (by decide)) (kA rfl) (by decide) ?_
    refine rxU 10 rfl (by kernel_rfl) rfl (gOff 0 rfl rfl rfl (by decide)) (kA rfl) (by decide) ?_
    refine rxU 11 rfl (by kernel_rfl) rfl (gOff 0 rfl rfl rfl (by decide)) (kA rfl) (by decide) ?_
    refine rxU 12 rfl (by kernel_rfl) rfl (gOff 0 rfl rfl rfl (by decide)) (kA rfl) (by decide) ?_
    refine rxV 13 rfl (by kernel_rfl) rfl (fun _ _ => rfl) (fun _ _ hF => opPickT rfl (hF.ev 0 rfl) rfl) (kM [false, true, true, true] rfl rfl) (by decide) (v := (.bool true)) ?_
    refine rxEnd (by kernel_rfl) ?_
    refine qxThen ?_
    refine cxT 0 rfl rfl ?_
    refine cxSeq ?_
    refine cxReg ?_
    refine pxE 1 hH rfl (fun _ hF => Does.small (bu_string g1 o E1 hB) (fun w => opCall rfl Tryd.func24 rfl rfl (Evs.cons (v := (.pointer (some ⟨g1, 0, none⟩))) (hF.ev 2 rfl) Evs.nil) w)) trivial rfl (fun _ _ => rfl) (kM [false, true, false, false] rfl rfl) (by decide) ?_
    clear hH
    rintro _ E6 w rfl hH
    replace hH : HH w0 (bks ([bl g 56 #[.string (strL s)]])) [[bl g 56 #[(.string (strL (rdR q)))]], E6] w := hH
    refine pxM hH (fun _ hF => Does.small (unbase64_c o (by omega)) (fun w => opCall rfl Tryd.func15 rfl rfl (Evs.cons (v := (.string (strL o))) (hF.ev 0 rfl) Evs.nil) w)) trivial rfl (fun _ _ => rfl) (kM [false, true] rfl rfl) (by decide) ?_
    clear hH
    rintro v11 E7 w hU8 hH
    replace hH : HH w0 (bks ([bl g 56 #[.string (strL s)]])) [[bl g 56 #[(.string (strL (rdR q)))]], E6, E7] w := hH
    obtain ⟨A9, c10, rfl, hO12⟩ := unp_uni hU8
    refine pxV (v := (.tuple #[(.slice A9 (((unP o).getD []).length) c10), (.int .i64 (((ers (unP o)) : Nat) : Int))])) (fun _ _ hF => opMove rfl (hF.ev 0 rfl)) rfl (fun _ _ => rfl) (kM [false, true] rfl rfl) (by decide) ?_
    refine pxV (v := (.slice A9 (((unP o).getD []).length) c10)) (fun _ _ hF => opExtract rfl (hF.ev 0 rfl) rfl) rfl (fun _ _ => rfl) (kA rfl) (by decide) ?_
    refine pxV (v := (.int .i64 (((ers (unP o)) : Nat) : Int))) (fun _ _ hF => opExtract rfl (hF.ev 1 rfl) rfl) rfl (fun _ _ => rfl) (kM [true, false, true] rfl rfl) (by decide) ?_
    refine pxV (v := (.slice A9 (((unP o).getD []).length) c10)) (fun _ _ hF => opAssign rfl (hF.ev 1 rfl)) rfl (fun _ _ => rfl) (kM [true, false, true] rfl rfl) (by decide) ?_
    refine pxV (v := (.int .i64 (((ers (unP o)) : Nat) : Int))) (fun _ _ hF => opAssign rfl (hF.ev 1 rfl)) rfl (fun _ _ => rfl) (kM [true, false, true] rfl rfl) (by decide) ?_
    refine pxEnd ?_
    refine qxThen ?_
    refine cxSeq ?_
    refine cxReg ?_
    refine pxV (v := (.slice A9 (((unP o).getD []).length) c10)) (fun _ _ hF => opMove rfl (hF.ev 1 rfl)) rfl (fun _ _ => rfl) (kM [true, false, true] rfl rfl) (by decide) ?_
    refine pxV (v := (.string (strL (rdL q)))) (fun _ _ hF => opMove rfl (hF.ev 2 rfl)) rfl (fun _ _ => rfl) (kM [true, true, false] rfl rfl) (by decide) ?_
    refine pxV (v := (.int .i64 (((ers (unP o)) : Nat) : Int))) (fun _ _ hF => opMove rfl (hF.ev 2 rfl)) rfl (fun _ _ => rfl) (kM [true, true, false] rfl rfl) (by decide) ?_
    refine pxV (v := (.bool ((unP o).isSome))) (fun _ _ hF => opEqI rfl (hF.ev 0 rfl) rfl (ers_ok _)) rfl (fun _ _ => rfl) (kM [false, true, true] rfl rfl) (by decide) ?_
    refine pxV (v := (.slice A9 (((unP o).getD []).length) c10)) (fun _ _ hF => opAssign rfl (hF.ev 2 rfl)) rfl (fun _ _ => rfl) (kM [true, true, false] rfl rfl) (by decide) ?_
    refine pxV (v := (.string (strL (rdL q)))) (fun _ _ hF => opAssign rfl (hF.ev 2 rfl)) rfl (fun _ _ => rfl) (kM [true, true, false] rfl rfl) (by decide) ?_
    refine pxV (v := (.bool ((unP o).isSome))) (fun _ _ hF => opAssign rfl (hF.ev 2 rfl)) rfl (fun _ _ => rfl) (kM [true, true, false] rfl rfl) (by decide) ?_
    refine pxEnd ?_
    refine qxThen ?_
    refine cxRet ?_
    refine qxThenR ?_
    refine qxInR ?_
    refine qxThenR ?_
    refine qxInR ?_
    refine qxRet3 2 1 0 rfl rfl rfl rfl ?_
    exact ⟨_, _, rfl, (by rw [← hbd, bd_stop (stop_nil hg5)]; exact bd_some (s := s) (s' := rdR q) (by have := rdR_le q; omega) (by have := rdL_le q; omega) (by omega) hO12), hH.out [true, false, true]⟩
  · refine rxV 3 rfl (by kernel_rfl) rfl (gOn 0 rfl rfl rfl (by decide)) (fun _ _ hF => opMove rfl (hF.ev 1 rfl)) (kA rfl) (by decide) (v := (.string (strL (rdL q)))) ?_
    obtain ⟨x14, hx15⟩ := get_at (rdL q) 0 (List.length_pos_iff.2 hg5)
    have hb16 := UInt8.toNat_lt x14
    refine rxV 4 rfl (by kernel_rfl) rfl (gOn 1 rfl rfl rfl (by decide)) (fun _ _ hF => opIdxL (l := (rdL q)) (i := 0) (c := x14) rfl (by kernel_rfl) (hF.ev 0 rfl) rfl rfl hx15) (kM [false, true, true, true, true] rfl rfl) (by decide) (v := (.int .u8 (((x14.toNat) : Nat) : Int))) ?_
    refine rxV 5 rfl (by kernel_rfl) rfl (gOn 1 rfl rfl rfl (by decide)) (fun _ _ hF => opIdxL (l := [61]) (i := 0) (c := 61) rfl (by kernel_rfl) rfl rfl rfl rfl) (kA rfl) (by decide) (v := (.int .u8 61)) ?_
    refine rxV 6 rfl (by kernel_rfl) rfl (gOn 2 rfl rfl rfl (by decide)) (fun _ _ hF => opEqI rfl (hF.ev 1 rfl) (hF.ev 0 rfl) (dc (by omega))) (kM [false, false, true, true, true, true] rfl rfl) (by decide) (v := (.bool (decide (x14.toNat = 61)))) ?_
    refine rxV 7 rfl (by kernel_rfl) rfl (fun _ _ => rfl) (fun _ _ hF => opPickF rfl (hF.ev 1 rfl) (hF.ev 0 rfl)) (kM [false, false, true, true, true] rfl rfl) (by decide) (v := (.bool (decide (x14.toNat = 61)))) ?_
    refine rxV 8 rfl (by kernel_rfl) rfl (fun _ _ => rfl) (fun _ _ hF => opMove rfl (hF.ev 0 rfl)) (kM [false, true, true, true] rfl rfl) (by decide) (v := (.bool (decide (x14.toNat = 61)))) ?_
    refine rxSplitP 0 rfl (l1 := [(19, (.bool true)), (6, (.string (strL (rdL q)))), (5, (.pointer (some ⟨g1, 0, none⟩))), (0, (.pointer (some ⟨g, 0, none⟩)))]) (l2 := [(19, (.bool false)), (6, (.string (strL (rdL q)))), (5, (.pointer (some ⟨g1, 0, none⟩))), (0, (.pointer (some ⟨g, 0, none⟩)))]) rfl rfl (fun hg17 => ?_) (fun hg17 => ?_)
    · refine rxU 9 rfl (by kernel_rfl) rfl (gOff 0 rfl rfl rfl (by decide)) (kA rfl) (by decide) ?_
      refine rxU 10 rfl (by kernel_rfl) rfl (gOff 0 rfl rfl rfl (by decide)) (kA rfl) (by decide) ?_
      refine rxU 11 rfl (by kernel_rfl) rfl (gOff 0 rfl rfl rfl (by decide)) (kA rfl) (by decide) ?_
      refine rxU 12 rfl (by kernel_rfl) rfl (gOff 0 rfl rfl rfl (by decide)) (kA rfl) (by decide) ?_
      refine rxV 13 rfl (by kernel_rfl) rfl (fun _ _ => rfl) (fun _ _ hF => opPickT rfl (hF.ev 0 rfl) rfl) (kM [false, true, true, true] rfl rfl) (by decide) (v := (.bool true)) ?_
      refine rxEnd (by kernel_rfl) ?_
      refine qxThen ?_
      refine cxT 0 rfl rfl ?_
      refine cxSeq ?_
      refine cxReg ?_
      refine pxE 1 hH rfl (fun _ hF => Does.small (bu_string g1 o E1 hB) (fun w => opCall rfl Tryd.func24 rfl rfl (Evs.cons (v := (.pointer (some ⟨g1, 0, none⟩))) (hF.ev 2 rfl) Evs.nil) w)) trivial rfl (fun _ _ => rfl) (kM [false, true, false, false] rfl rfl) (by decide) ?_
      clear hH
      rintro _ E18 w rfl hH
      replace hH : HH w0 (bks ([bl g 56 #[.string (strL s)]])) [[bl g 56 #[(.string (strL (rdR q)))]], E18] w := hH
      refine pxM hH (fun _ hF => Does.small (unbase64_c o (by omega)) (fun w => opCall rfl Tryd.func15 rfl rfl (Evs.cons (v := (.string (strL o))) (hF.ev 0 rfl) Evs.nil) w)) trivial rfl (fun _ _ => rfl) (kM [false, true] rfl rfl) (by decide) ?_
      clear hH
      rintro v23 E19 w hU20 hH
      replace hH : HH w0 (bks ([bl g 56 #[.string (strL s)]])) [[bl g 56 #[(.string (strL (rdR q)))]], E18, E19] w := hH
      obtain ⟨A21, c22, rfl, hO24⟩ := unp_uni hU20
      refine pxV (v := (.tuple #[(.slice A21 (((unP o).getD []).length) c22), (.int .i64 (((ers (unP o)) : Nat) : Int))])) (fun _ _ hF => opMove rfl (hF.ev 0 rfl)) rfl (fun _ _ => rfl) (kM [false, true] rfl rfl) (by decide) ?_
      refine pxV (v := (.slice A21 (((unP o).getD []).length) c22)) (fun _ _ hF => opExtract rfl (hF.ev 0 rfl) rfl) rfl (fun _ _ => rfl) (kA rfl) (by decide) ?_
      refine pxV (v := (.int .i64 (((ers (unP o)) : Nat) : Int))) (fun _ _ hF => opExtract rfl (hF.ev 1 rfl) rfl) rfl (fun _ _ => rfl) (kM [true, false, true] rfl rfl) (by decide) ?_
      refine pxV (v := (.slice A21 (((unP o).getD []).length) c22)) (fun _ _ hF => opAssign rfl (hF.ev 1 rfl)) rfl (fun _ _ => rfl) (kM [true, false, true] rfl rfl) (by decide) ?_
      refine pxV (v := (.int .i64 (((ers (unP o)) : Nat) : Int))) (fun _ _ hF => opAssign rfl (hF.ev 1 rfl)) rfl (fun _ _ => rfl) (kM [true, false, true] rfl rfl) (by decide) ?_
      refine pxEnd ?_
      refine qxThen ?_
      refine cxSeq ?_
      refine cxReg ?_
      refine pxV (v := (.slice A21 (((unP o).getD []).length) c22)) (fun _ _ hF => opMove rfl (hF.ev 1 rfl)) rfl (fun _ _ => rfl) (kM [true, false, true] rfl rfl) (by decide) ?_
      refine pxV (v := (.string (strL (rdL q)))) (fun _ _ hF => opMove rfl (hF.ev 2 rfl)) rfl (fun _ _ => rfl) (kM [true, true, false] rfl rfl) (by decide) ?_
      refine pxV (v := (.int .i64 (((ers (unP o)) : Nat) : Int))) (fun _ _ hF => opMove rfl (hF.ev 2 rfl)) rfl (fun _ _ => rfl) (kM [true, true, false] rfl rfl) (by decide) ?_
      refine pxV (v := (.bool ((unP o).isSome))) (fun _ _ hF => opEqI rfl (hF.ev 0 rfl) rfl (ers_ok _)) rfl (fun _ _ => rfl) (kM [false, true, true] rfl rfl) (by decide) ?_
      refine pxV (v := (.slice A21 (((unP o).getD []).length) c22)) (fun _ _ hF => opAssign rfl (hF.ev 2 rfl)) rfl (fun _ _ => rfl) (kM [true, true, false] rfl rfl) (by decide) ?_
      refine pxV (v := (.string (strL (rdL q)))) (fun _ _ hF => opAssign rfl (hF.ev 2 rfl)) rfl (fun _ _ => rfl) (kM [true, true, false] rfl rfl) (by decide) ?_
      refine pxV (v := (.bool ((unP o).isSome))) (fun _ _ hF => opAssign rfl (hF.ev 2 rfl)) rfl (fun _ _ => rfl) (kM [true, true, false] rfl rfl) (by decide) ?_
      refine pxEnd ?_
      refine qxThen ?_
      refine cxRet ?_
      refine qxThenR ?_
      refine qxInR ?_
      refine qxThenR ?_
      refine qxInR ?_
      refine qxRet3 2 1 0 rfl rfl rfl rfl ?_
      exact ⟨_, _, rfl, (by rw [← hbd, bd_stop (stop_61 hx15 hg17)]; exact bd_some (s := s) (s' := rdR q) (by have := rdR_le q; omega) (by have := rdL_le q; omega) (by omega) hO24), hH.out [true, false, true]⟩
    · refine rxV 9 rfl (by kernel_rfl) rfl (gOn 0 rfl rfl rfl (by decide)) (fun _ _ hF => opMove rfl (hF.ev 1 rfl)) (kA rfl) (by decide) (v := (.string (strL (rdL q)))) ?_
      refine rxV 10 rfl (by kernel_rfl) rfl (gOn 1 rfl rfl rfl (by decide)) (fun _ _ hF => opIdxL (l := (rdL q)) (i := 0) (c := x14) rfl (by kernel_rfl) (hF.ev 0 rfl) rfl rfl hx15) (kM [false, true, true, true, true] rfl rfl) (by decide) (v := (.int .u8 (((x14.toNat) : Nat) : Int))) ?_
      refine rxV 11 rfl (by kernel_rfl) rfl (gOn 1 rfl rfl rfl (by decide)) (fun _ _ hF => opIdxL (l := dasL) (i := 0) (c := 45) rfl (by kernel_rfl) rfl rfl rfl rfl) (kA rfl) (by decide) (v := (.int .u8 45)) ?_
      refine rxV 12 rfl (by kernel_rfl) rfl (gOn 2 rfl rfl rfl (by decide)) (fun _ _ hF => opEqI rfl (hF.ev 1 rfl) (hF.ev 0 rfl) (dc (by omega))) (kM [false, false, true, true, true, true] rfl rfl) (by decide) (v := (.bool (decide (x14.toNat = 45)))) ?_
      refine rxV 13 rfl (by kernel_rfl) rfl (fun _ _ => rfl) (fun _ _ hF => opPickF rfl (hF.ev 1 rfl) (hF.ev 0 rfl)) (kM [false, false, true, true, true] rfl rfl) (by decide) (v := (.bool (decide (x14.toNat = 45)))) ?_
      refine rxEnd (by kernel_rfl) ?_
      refine qxThen ?_
      refine cxP 0 rfl rfl (fun hc26 => ?_) (fun hc26 => ?_)
      · refine cxSeq ?_
        refine cxReg ?_
        refine pxE 1 hH rfl (fun _ hF => Does.small (bu_string g1 o E1 hB) (fun w => opCall rfl Tryd.func24 rfl rfl (Evs.cons (v := (.pointer (some ⟨g1, 0, none⟩))) (hF.ev 2 rfl) Evs.nil) w)) trivial rfl (fun _ _ => rfl) (kM [false, true, false, false] rfl rfl) (by decide) ?_
        clear hH
        rintro _ E27 w rfl hH
        replace hH : HH w0 (bks ([bl g 56 #[.string (strL s)]])) [[bl g 56 #[(.string (strL (rdR q)))]], E27] w := hH
        refine pxM hH (fun _ hF => Does.small (unbase64_c o (by omega)) (fun w => opCall rfl Tryd.func15 rfl rfl (Evs.cons (v := (.string (strL o))) (hF.ev 0 rfl) Evs.nil) w)) trivial rfl (fun _ _ => rfl) (kM [false, true] rfl rfl) (by decide) ?_
        clear hH
        rintro v32 E28 w hU29 hH
        replace hH : HH w0 (bks ([bl g 56 #[.string (strL s)]])) [[bl g 56 #[(.string (strL (rdR q)))]], E27, E28] w := hH
        obtain ⟨A30, c31, rfl, hO33⟩ := unp_uni hU29
        refine pxV (v := (.tuple #[(.slice A30 (((unP o).getD []).length) c31), (.int .i64 (((ers (unP o)) : Nat) : Int))])) (fun _ _ hF => opMove rfl (hF.ev 0 rfl)) rfl (fun _ _ => rfl) (kM [false, true] rfl rfl) (by decide) ?_
        refine pxV (v := (.slice A30 (((unP o).getD []).length) c31)) (fun _ _ hF => opExtract rfl (hF.ev 0 rfl) rfl) rfl (fun _ _ => rfl) (kA rfl) (by decide) ?_
        refine pxV (v := (.int .i64 (((ers (unP o)) : Nat) : Int))) (fun _ _ hF => opExtract rfl (hF.ev 1 rfl) rfl) rfl (fun _ _ => rfl) (kM [true, false, true] rfl rfl) (by decide) ?_
        refine pxV (v := (.slice A30 (((unP o).getD []).length) c31)) (fun _ _ hF => opAssign rfl (hF.ev 1 rfl)) rfl (fun _ _ => rfl) (kM [true, false, true] rfl rfl) (by decide) ?_
        refine pxV (v := (.int .i64 (((ers (unP o)) : Nat) : Int))) (fun _ _ hF => opAssign rfl (hF.ev 1 rfl)) rfl (fun _ _ => rfl) (kM [true, false, true] rfl rfl) (by decide) ?_
        refine pxEnd ?_
        refine qxThen ?_
        refine cxSeq ?_
        refine cxReg ?_
        refine pxV (v := (.slice A30 (((unP o).getD []).length) c31)) (fun _ _ hF => opMove rfl (hF.ev 1 rfl)) rfl (fun _ _ => rfl) (kM [true, false, true] rfl rfl) (by decide) ?_
        refine pxV (v := (.string (strL (rdL q)))) (fun _ _ hF => opMove rfl (hF.ev 2 rfl)) rfl (fun _ _ => rfl) (kM [true, true, false] rfl rfl) (by decide) ?_
        refine pxV (v := (.int .i64 (((ers (unP o)) : Nat) : Int))) (fun _ _ hF => opMove rfl (hF.ev 2 rfl)) rfl (fun _ _ => rfl) (kM [true, true, false] rfl rfl) (by decide) ?_
        refine pxV (v := (.bool ((unP o).isSome))) (fun _ _ hF => opEqI rfl (hF.ev 0 rfl) rfl (ers_ok _)) rfl (fun _ _ => rfl) (kM [false, true, true] rfl rfl) (by decide) ?_
        refine pxV (v := (.slice A30 (((unP o).getD []).length) c31)) (fun _ _ hF => opAssign rfl (hF.ev 2 rfl)) rfl (fun _ _ => rfl) (kM [true, true, false] rfl rfl) (by decide) ?_
        refine pxV (v := (.string (strL (rdL q)))) (fun _ _ hF => opAssign rfl (hF.ev 2 rfl)) rfl (fun _ _ => rfl) (kM [true, true, false] rfl rfl) (by decide) ?_
        refine pxV (v := (.bool ((unP o).isSome))) (fun _ _ hF => opAssign rfl (hF.ev 2 rfl)) rfl (fun _ _ => rfl) (kM [true, true, false] rfl rfl) (by decide) ?_
        refine pxEnd ?_
        refine qxThen ?_
        refine cxRet ?_
        refine qxThenR ?_
        refine qxInR ?_
        refine qxThenR ?_
        refine qxInR ?_
        refine qxRet3 2 1 0 rfl rfl rfl rfl ?_
        exact ⟨_, _, rfl, (by rw [← hbd, bd_stop (stop_45 hx15 hc26)]; exact bd_some (s := s) (s' := rdR q) (by have := rdR_le q; omega) (by have := rdL_le q; omega) (by omega) hO33), hH.out [true, false, true]⟩
      · refine cxSkip ?_
        refine qxThen ?_
        refine cxSeq ?_
        refine cxSeq ?_
        refine cxReg ?_
        refine pxV (v := (.string (strL (rdL q)))) (fun _ _ hF => opMove rfl (hF.ev 1 rfl)) rfl (fun _ _ => rfl) (kM [false, true, true, true] rfl rfl) (by decide) ?_
        refine pxV (v := (.int .i64 ((((rdL q).length) : Nat) : Int))) (fun _ _ hF => opLenL (l := (rdL q)) rfl (by kernel_rfl) (hF.ev 0 rfl)) rfl (fun _ _ => rfl) (kM [false, true, true, true] rfl rfl) (by decide) ?_
        refine pxV (v := (.bool (decide ((rdL q).length > 76)))) (fun _ _ hF => opGtr rfl (hF.ev 0 rfl) rfl (dc (by omega))) rfl (fun _ _ => rfl) (kM [false, true, true, true] rfl rfl) (by decide) ?_
        refine pxV (v := (.bool (decide ((rdL q).length > 76)))) (fun _ _ hF => opMove rfl (hF.ev 0 rfl)) rfl (fun _ _ => rfl) (kM [false, true, true, true] rfl rfl) (by decide) ?_
        refine pxSplitP 0 rfl (l1 := [(37, (.bool true)), (6, (.string (strL (rdL q)))), (5, (.pointer (some ⟨g1, 0, none⟩))), (0, (.pointer (some ⟨g, 0, none⟩)))]) (l2 := [(37, (.bool false)), (6, (.string (strL (rdL q)))), (5, (.pointer (some ⟨g1, 0, none⟩))), (0, (.pointer (some ⟨g, 0, none⟩)))]) rfl rfl (fun hg35 => ?_) (fun hg35 => ?_)
        · refine pxU rfl (gOff 0 rfl rfl rfl (by decide)) (kA rfl) (by decide) ?_
          refine pxU rfl (gOff 0 rfl rfl rfl (by decide)) (kA rfl) (by decide) ?_
          refine pxU rfl (gOff 0 rfl rfl rfl (by decide)) (kA rfl) (by decide) ?_
          refine pxU rfl (gOff 0 rfl rfl rfl (by decide)) (kA rfl) (by decide) ?_
          refine pxV (v := (.bool true)) (fun _ _ hF => opPickT rfl (hF.ev 0 rfl) rfl) rfl (fun _ _ => rfl) (kM [false, true, true, true] rfl rfl) (by decide) ?_
          refine pxEnd ?_
          refine qxThen ?_
          refine cxT 0 rfl rfl ?_
          refine cxSeq ?_
          refine cxReg ?_
          refine pxV (v := (.slice none 0 0)) (fun _ _ hF => opAssign rfl rfl) rfl (fun _ _ => rfl) (kM [false, false, false, false] rfl rfl) (by decide) ?_
          refine pxV (v := (.string (strL ([])))) (fun _ _ hF => opAssign rfl rfl) rfl (fun _ _ => rfl) (kA rfl) (by decide) ?_
          refine pxV (v := (.bool false)) (fun _ _ hF => opAssign rfl rfl) rfl (fun _ _ => rfl) (kA rfl) (by decide) ?_
          refine pxEnd ?_
          refine qxThen ?_
          refine cxRet ?_
          refine qxThenR ?_
          refine qxInR ?_
          refine qxThenR ?_
          refine qxInR ?_
          refine qxRet3 2 1 0 rfl rfl rfl rfl ?_
          exact ⟨_, _, rfl, (by rw [← hbd, bd_bad (stop_no hx15 hg17 hc26) (bad_len hg35)]; exact bd_none (s := s) (s' := rdR q) (by have := rdR_le q; omega)), hH.out1 [true, false] rfl⟩
        · refine pxV (v := (.string (strL (rdL q)))) (fun _ _ hF => opMove rfl (hF.ev 1 rfl)) rfl (gOn 0 rfl rfl rfl (by decide)) (kA rfl) (by decide) ?_
          refine pxV (v := (.int .i64 ((((rdL q).length) : Nat) : Int))) (fun _ _ hF => opLenL (l := (rdL q)) rfl (by kernel_rfl) (hF.ev 0 rfl)) rfl (gOn 1 rfl rfl rfl (by decide)) (kM [false, true, true, true, true] rfl rfl) (by decide) ?_
          refine pxV (v := (.int .i64 (((((rdL q).length) % 4) : Nat) : Int))) (fun _ _ hF => opRem (z := ((((rdL q).length) % 4 : Nat) : Int)) rfl (hF.ev 0 rfl) rfl (by omega) remN) rfl (gOn 1 rfl rfl rfl (by decide)) (kM [false, true, true, true, true] rfl rfl) (by decide) ?_
          refine pxV (v := (.bool (decide (((rdL q).length) % 4 ≠ 0)))) (fun _ _ hF => opNeI rfl (hF.ev 0 rfl) rfl (dc (by omega))) rfl (gOn 1 rfl rfl rfl (by decide)) (kM [false, true, true, true, true] rfl rfl) (by decide) ?_
          refine pxV (v := (.bool (decide (((rdL q).length) % 4 ≠ 0)))) (fun _ _ hF => opPickF rfl (hF.ev 1 rfl) (hF.ev 0 rfl)) rfl (fun _ _ => rfl) (kM [false, false, true, true, true] rfl rfl) (by decide) ?_
          refine pxEnd ?_
          refine qxThen ?_
          refine cxP 0 rfl rfl (fun hc36 => ?_) (fun hc36 => ?_)
          · refine cxSeq ?_
            refine cxReg ?_
            refine pxV (v := (.slice none 0 0)) (fun _ _ hF => opAssign rfl rfl) rfl (fun _ _ => rfl) (kM [false, false, false, false] rfl rfl) (by decide) ?_
            refine pxV (v := (.string (strL ([])))) (fun _ _ hF => opAssign rfl rfl) rfl (fun _ _ => rfl) (kA rfl) (by decide) ?_
            refine pxV (v := (.bool false)) (fun _ _ hF => opAssign rfl rfl) rfl (fun _ _ => rfl) (kA rfl) (by decide) ?_
            refine pxEnd ?_
            refine qxThen ?_
            refine cxRet ?_
            refine qxThenR ?_
            refine qxInR ?_
            refine qxThenR ?_
            refine qxInR ?_
            refine qxRet3 2 1 0 rfl rfl rfl rfl ?_
            exact ⟨_, _, rfl, (by rw [← hbd, bd_bad (stop_no hx15 hg17 hc26) (bad_mod hc36)]; exact bd_none (s := s) (s' := rdR q) (by have := rdR_le q; omega)), hH.out1 [true, false] rfl⟩
          · refine cxSkip ?_
            refine qxThen ?_
            refine cxReg ?_
            refine pxV (v := (.string (strL (rdL q)))) (fun _ _ hF => opMove rfl (hF.ev 1 rfl)) rfl (fun _ _ => rfl) (kM [false, false, true, true] rfl rfl) (by decide) ?_
            refine pxE 1 hH rfl (fun _ hF => Does.small (bu_str g1 o E1 hB (rdL q) (by have := rd_len q; omega)) (fun w => opCall rfl Tryd.func19 rfl rfl (Evs.cons (v := (.pointer (some ⟨g1, 0, none⟩))) (hF.ev 1 rfl) (Evs.cons (v := (.string (strL (rdL q)))) (hF.ev 0 rfl) Evs.nil)) w)) trivial rfl (fun _ _ => rfl) (kM [false, true, true] rfl rfl) (by decide) ?_
            clear hH
            rintro _ E37 w ⟨rfl, hB38⟩ hH
            replace hH : HH w0 (bks ([bl g 56 #[.string (strL s)]])) [[bl g 56 #[(.string (strL (rdR q)))]], E37] w := hH
            refine pxEnd ?_
            refine qxInN ?_
            exact qxRound ((rdR q), (o ++ (rdL q)), E37) ⟨hH, ((bd_go (stop_no hx15 hg17 hc26) (bad_no hg35 hc36)).symm.trans hbd), (show (o ++ (rdL q)).length + (rdR q).length ≤ s.length from (by have := rd_len q; rw [List.length_append]; omega)), hB38⟩ (by have := rdR_lt (q_ne (stop_no hx15 hg17 hc26)); exact this) (slots_at [1, 2] rfl)

end Go.Proofs.YtadbpmcmdcnlfaaDoor
