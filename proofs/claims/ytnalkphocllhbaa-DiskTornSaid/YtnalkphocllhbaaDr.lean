/- The document's disk: what lies in memory, and what its calls do (mkdr.py writes this text). -/
import Derived.Test.YtnalkphocllhbaaDkW
namespace Go.Proofs.Ytnalkphocllhbaa
open Go Go.RowKit
set_option maxRecDepth 100000

structure Dr where
  is : List Sec
  kept : List Sec
  l : List (Nat × Sec)
  fuse : Int
  gone : Bool
structure Dr.Ok (D : Dr) : Prop where
  nn : D.kept.length = D.is.length
  sz : D.is.length ≤ 4000
  l : ∀ c ∈ D.l, c.1 < D.is.length
  min : -1 ≤ D.fuse
  max : D.fuse ≤ 9223372036854775807
structure DrAt (g : Nat) (D : Dr) (E : Hl) : Prop where
  ok : D.Ok
  at' : ∃ A0 n0 c0 E0 A1 n1 c1 E1 A2 n2 c2 E2, E = ([[bl g 55 #[.slice A0 n0 c0, .slice A1 n1 c1, .slice A2 n2 c2, .int .i64 D.fuse, .bool D.gone]], E0, E1, E2] : List Hl).flatten ∧ OwnT cSec 58 (.slice A0 n0 c0) D.is E0 ∧ OwnT cSec 58 (.slice A1 n1 c1) D.kept E1 ∧ OwnT cChg 63 (.slice A2 n2 c2) D.l E2

def Dr.change (D : Dr) : Bool × Dr := if D.gone = true then (false, D) else if D.fuse = 0 then (false, { D with gone := true }) else (true, { D with fuse := max (D.fuse - 1) (-1) })
theorem change_ok {D D' : Dr} {b : Bool} (h : D.Ok) (e : D.change = (b, D')) : D'.Ok := by
  have h1 := h.min
  have h2 := h.max
  unfold Dr.change at e
  split at e
  · obtain ⟨_, rfl⟩ := Prod.mk.inj e; exact h
  · split at e
    · obtain ⟨_, rfl⟩ := Prod.mk.inj e; exact ⟨h.nn, h.sz, h.l, h.min, h.max⟩
    · obtain ⟨_, rfl⟩ := Prod.mk.inj e
      exact ⟨h.nn, h.sz, h.l, by show -1 ≤ max (D.fuse - 1) (-1); omega, by show max (D.fuse - 1) (-1) ≤ _; omega⟩

set_option maxHeartbeats 8000000 in
theorem change_c (g : Nat) (D : Dr) (E : Hl) (hD : DrAt g D E) : Does Try.prog 30 #[(.pointer (some ⟨g, 0, none⟩))] E (fun _ => True) (fun v E' => v = .bool D.change.1 ∧ DrAt g D.change.2 E') := by
  refine does_of (fn := Try.f30) Try.func30 rfl Try.ntmps30 (Nat.le_of_ble_eq_true rfl) rfl ?_
  intro w0 hH hR
  have hok := hD.ok; have hmin := hok.min; have hmax := hok.max
  refine cxSeq ?_
  refine cxReg ?_
  refine pxV (v := (.bool false)) (fun _ _ hF => opAssign rfl rfl) rfl (fun _ _ => rfl) (kA rfl) (by decide) ?_
  refine pxEnd ?_
  refine qxThen ?_
  refine cxSeq ?_
  refine cxSeq ?_
  refine cxReg ?_
  refine pxV (v := (.pointer (some ⟨g, 0, none⟩))) (fun _ _ hF => opMove rfl (hF.ev 1 rfl)) rfl (fun _ _ => rfl) (kM [false, true] rfl rfl) (by decide) ?_
  refine pxV (v := (.pointer (some ⟨g, 0, none⟩))) (fun _ _ hF => opNilCheck rfl (hF.ev 0 rfl)) rfl (fun _ _ => rfl) (kM [false, true] rfl rfl) (by decide) ?_
  refine pxV (v := (.pointer (some ⟨g, 4, none⟩))) (fun _ _ hF => opField (off := 4) rfl (hF.ev 0 rfl) (by kernel_rfl)) rfl (fun _ _ => rfl) (kM [false, true] rfl rfl) (by decide) ?_
  obtain ⟨A1, n2, c3, E4, A5, n6, c7, E8, A9, n10, c11, E12, hE16, hO13, hO14, hO15⟩ := hD.at'
  obtain rfl : n2 = D.is.length := hO13.len
  obtain rfl : n6 = D.kept.length := hO14.len
  obtain rfl : n10 = D.l.length := hO15.len
  replace hH : HH w0 (bks E) [[bl g 55 #[(.slice A1 D.is.length c3), (.slice A5 D.kept.length c7), (.slice A9 D.l.length c11), (.int .i64 (D.fuse)), (.bool (D.gone))]], E4, E8, E12] w0 := hH.cast (by rw [hE16]; simp)
  refine pxS (v := (.bool (D.gone))) (fun w => w.heap[g]? = some (.cells #[(.slice A1 D.is.length c3), (.slice A5 D.kept.length c7), (.slice A9 D.l.length c11), (.int .i64 (D.fuse)), (.bool (D.gone))] 55 (0, 0))) (hH.blk 0 rfl) (fun _ _ hF hS => opLoadK hS rfl (hF.ev 0 rfl) (by kernel_rfl) rfl) rfl (fun _ _ => rfl) (kM [false, true] rfl rfl) (by decide) ?_
  refine pxEnd ?_
  refine qxThen ?_
  refine cxB 0 rfl rfl (fun hc17 => ?_) (fun hc17 => ?_)
  · refine cxSeq ?_
    refine cxReg ?_
    refine pxV (v := (.bool false)) (fun _ _ hF => opAssign rfl rfl) rfl (fun _ _ => rfl) (kM [false, false] rfl rfl) (by decide) ?_
    refine pxEnd ?_
    refine qxThen ?_
    refine cxRet ?_
    refine qxThenR ?_
    refine qxRet1 0 rfl rfl ?_
    have he : D.change = (false, ⟨D.is, D.kept, D.l, D.fuse, D.gone⟩) := by unfold Dr.change; rw [if_pos hc17]
    obtain ⟨E18, hE19, hD20⟩ : ∃ E, E = ([[bl g 55 #[(.slice A1 D.is.length c3), (.slice A5 D.kept.length c7), (.slice A9 D.l.length c11), (.int .i64 (D.fuse)), (.bool (D.gone))]], E4, E8, E12] : List Hl).flatten ∧ DrAt g (⟨D.is, D.kept, D.l, D.fuse, D.gone⟩) E := ⟨_, rfl, change_ok hok he, _, _, _, _, _, _, _, _, _, _, _, _, rfl, hO13, hO14, hO15⟩
    replace hH : HH w0 (bks E) [E18] w0 := hH.cast (by rw [hE19]; simp)
    exact ⟨_, _, rfl, ⟨by rw [he], by rw [he]; exact hD20⟩, hH.out1 [true] rfl⟩
  · refine cxSkip ?_
    refine qxThen ?_
    refine cxSeq ?_
    refine cxSeq ?_
    refine cxReg ?_
    refine pxV (v := (.pointer (some ⟨g, 0, none⟩))) (fun _ _ hF => opMove rfl (hF.ev 1 rfl)) rfl (fun _ _ => rfl) (kM [false, true] rfl rfl) (by decide) ?_
    refine pxV (v := (.pointer (some ⟨g, 0, none⟩))) (fun _ _ hF => opNilCheck rfl (hF.ev 0 rfl)) rfl (fun _ _ => rfl) (kM [false, true] rfl rfl) (by decide) ?_
    refine pxV (v := (.pointer (some ⟨g, 3, none⟩))) (fun _ _ hF => opField (off := 3) rfl (hF.ev 0 rfl) (by kernel_rfl)) rfl (fun _ _ => rfl) (kM [false, true] rfl rfl) (by decide) ?_
    refine pxS (v := (.int .i64 (D.fuse))) (fun w => w.heap[g]? = some (.cells #[(.slice A1 D.is.length c3), (.slice A5 D.kept.length c7), (.slice A9 D.l.length c11), (.int .i64 (D.fuse)), (.bool (D.gone))] 55 (0, 0))) (hH.blk 0 rfl) (fun _ _ hF hS => opLoadK hS rfl (hF.ev 0 rfl) (by kernel_rfl) rfl) rfl (fun _ _ => rfl) (kM [false, true] rfl rfl) (by decide) ?_
    refine pxV (v := (.bool (decide ((D.fuse) = 0)))) (fun _ _ hF => opEqI rfl (hF.ev 0 rfl) rfl rfl) rfl (fun _ _ => rfl) (kM [false, true] rfl rfl) (by decide) ?_
    refine pxEnd ?_
    refine qxThen ?_
    refine cxP 0 rfl rfl (fun hc21 => ?_) (fun hc21 => ?_)
    · refine cxSeq ?_
      refine cxReg ?_
      refine pxV (v := (.pointer (some ⟨g, 0, none⟩))) (fun _ _ hF => opMove rfl (hF.ev 1 rfl)) rfl (fun _ _ => rfl) (kM [false, false] rfl rfl) (by decide) ?_
      refine pxV (v := (.pointer (some ⟨g, 0, none⟩))) (fun _ _ hF => opNilCheck rfl (hF.ev 0 rfl)) rfl (fun _ _ => rfl) (kM [false] rfl rfl) (by decide) ?_
      refine pxV (v := (.pointer (some ⟨g, 4, none⟩))) (fun _ _ hF => opField (off := 4) rfl (hF.ev 0 rfl) (by kernel_rfl)) rfl (fun _ _ => rfl) (kM [false] rfl rfl) (by decide) ?_
      refine pxE0 0 hH rfl (fun _ hF => smStore (v := (.bool true)) rfl (hF.ev 0 rfl) rfl (by kernel_rfl) (ltb rfl) rfl rfl) trivial rfl (fun _ _ => rfl) ?_
      clear hH
      rintro _ _ w rfl hH
      replace hH : HH w0 (bks E) [[bl g 55 #[(.slice A1 D.is.length c3), (.slice A5 D.kept.length c7), (.slice A9 D.l.length c11), (.int .i64 (D.fuse)), (.bool true)]], E4, E8, E12] w := hH
      refine pxEnd ?_
      refine qxThen ?_
      refine cxSeq ?_
      refine cxReg ?_
      refine pxV (v := (.bool false)) (fun _ _ hF => opAssign rfl rfl) rfl (fun _ _ => rfl) (kM [false] rfl rfl) (by decide) ?_
      refine pxEnd ?_
      refine qxThen ?_
      refine cxRet ?_
      refine qxThenR ?_
      refine qxRet1 0 rfl rfl ?_
      have he : D.change = (false, ⟨D.is, D.kept, D.l, D.fuse, true⟩) := by unfold Dr.change; rw [if_neg (by simp [hc17]), if_pos hc21]
      obtain ⟨E22, hE23, hD24⟩ : ∃ E, E = ([[bl g 55 #[(.slice A1 D.is.length c3), (.slice A5 D.kept.length c7), (.slice A9 D.l.length c11), (.int .i64 (D.fuse)), (.bool true)]], E4, E8, E12] : List Hl).flatten ∧ DrAt g (⟨D.is, D.kept, D.l, D.fuse, true⟩) E := ⟨_, rfl, change_ok hok he, _, _, _, _, _, _, _, _, _, _, _, _, rfl, hO13, hO14, hO15⟩
      replace hH : HH w0 (bks E) [E22] w := hH.cast (by rw [hE23]; simp)
      exact ⟨_, _, rfl, ⟨by rw [he], by rw [he]; exact hD24⟩, hH.out1 [true] rfl⟩
    · refine cxSkip ?_
      refine qxThen ?_
      refine cxSeq ?_
      refine cxReg ?_
      refine pxV (v := (.pointer (some ⟨g, 0, none⟩))) (fun _ _ hF => opMove rfl (hF.ev 1 rfl)) rfl (fun _ _ => rfl) (kM [false, true] rfl rfl) (by decide) ?_
      refine pxV (v := (.pointer (some ⟨g, 0, none⟩))) (fun _ _ hF => opMove rfl (hF.ev 1 rfl)) rfl (fun _ _ => rfl) (kM [true, false] rfl rfl) (by decide) ?_
      refine pxV (v := (.pointer (some ⟨g, 0, none⟩))) (fun _ _ hF => opNilCheck rfl (hF.ev 0 rfl)) rfl (fun _ _ => rfl) (kM [false, true] rfl rfl) (by decide) ?_
      refine pxV (v := (.pointer (some ⟨g, 3, none⟩))) (fun _ _ hF => opField (off := 3) rfl (hF.ev 0 rfl) (by kernel_rfl)) rfl (fun _ _ => rfl) (kM [false, true] rfl rfl) (by decide) ?_
      refine pxS (v := (.int .i64 (D.fuse))) (fun w => w.heap[g]? = some (.cells #[(.slice A1 D.is.length c3), (.slice A5 D.kept.length c7), (.slice A9 D.l.length c11), (.int .i64 (D.fuse)), (.bool (D.gone))] 55 (0, 0))) (hH.blk 0 rfl) (fun _ _ hF hS => opLoadK hS rfl (hF.ev 0 rfl) (by kernel_rfl) rfl) rfl (fun _ _ => rfl) (kM [false, true] rfl rfl) (by decide) ?_
      refine pxV (v := (.int .i64 ((D.fuse) - 1))) (fun _ _ hF => opSub rfl (hF.ev 0 rfl) rfl (wI rfl (by omega) (by omega))) rfl (fun _ _ => rfl) (kM [false, true] rfl rfl) (by decide) ?_
      refine pxV (v := (.int .i64 (max ((D.fuse) - 1) (-1)))) (fun _ _ hF => opMax rfl (hF.ev 0 rfl) rfl rfl) rfl (fun _ _ => rfl) (kM [false, true] rfl rfl) (by decide) ?_
      refine pxV (v := (.pointer (some ⟨g, 0, none⟩))) (fun _ _ hF => opNilCheck rfl (hF.ev 1 rfl)) rfl (fun _ _ => rfl) (kM [true, false] rfl rfl) (by decide) ?_
      refine pxV (v := (.pointer (some ⟨g, 3, none⟩))) (fun _ _ hF => opField (off := 3) rfl (hF.ev 0 rfl) (by kernel_rfl)) rfl (fun _ _ => rfl) (kM [false, true] rfl rfl) (by decide) ?_
      refine pxE0 0 hH rfl (fun _ hF => smStore (v := (.int .i64 (max ((D.fuse) - 1) (-1)))) rfl (hF.ev 0 rfl) (hF.ev 1 rfl) (by kernel_rfl) (ltb rfl) rfl rfl) trivial rfl (fun _ _ => rfl) ?_
      clear hH
      rintro _ _ w rfl hH
      replace hH : HH w0 (bks E) [[bl g 55 #[(.slice A1 D.is.length c3), (.slice A5 D.kept.length c7), (.slice A9 D.l.length c11), (.int .i64 (max ((D.fuse) - 1) (-1))), (.bool (D.gone))]], E4, E8, E12] w := hH
      refine pxEnd ?_
      refine qxThen ?_
      refine cxSeq ?_
      refine cxReg ?_
      refine pxV (v := (.bool true)) (fun _ _ hF => opAssign rfl rfl) rfl (fun _ _ => rfl) (kM [false, false] rfl rfl) (by decide) ?_
      refine pxEnd ?_
      refine qxThen ?_
      refine cxRet ?_
      refine qxRet1 0 rfl rfl ?_
      have he : D.change = (true, ⟨D.is, D.kept, D.l, max ((D.fuse) - 1) (-1), D.gone⟩) := by unfold Dr.change; rw [if_neg (by simp [hc17]), if_neg hc21]
      obtain ⟨E25, hE26, hD27⟩ : ∃ E, E = ([[bl g 55 #[(.slice A1 D.is.length c3), (.slice A5 D.kept.length c7), (.slice A9 D.l.length c11), (.int .i64 (max ((D.fuse) - 1) (-1))), (.bool (D.gone))]], E4, E8, E12] : List Hl).flatten ∧ DrAt g (⟨D.is, D.kept, D.l, max ((D.fuse) - 1) (-1), D.gone⟩) E := ⟨_, rfl, change_ok hok he, _, _, _, _, _, _, _, _, _, _, _, _, rfl, hO13, hO14, hO15⟩
      replace hH : HH w0 (bks E) [E25] w := hH.cast (by rw [hE26]; simp)
      exact ⟨_, _, rfl, ⟨by rw [he], by rw [he]; exact hD27⟩, hH.out1 [true] rfl⟩

def Dr.new (m : Nat) : Dr := ⟨List.replicate m fun _ => 0, List.replicate m fun _ => 0, [], -1, false⟩
theorem newR_ok {m : Nat} (h : m ≤ 4000) : (Dr.new m).Ok := ⟨rfl, by show (List.replicate m _).length ≤ _; rw [List.length_replicate]; exact h, (fun c hc => by cases hc), (by show (-1 : Int) ≤ -1; decide), (by show (-1 : Int) ≤ 9223372036854775807; decide)⟩

set_option maxHeartbeats 8000000 in
theorem newR_c (n : Int) (m : Nat) (hm : min (max n 0) 4000 = (m : Int)) (hm2 : m ≤ 4000) : Does Try.prog 10 #[(.int .i64 (n))] [] (fun _ => True) (fun v E' => ∃ g, v = ptrV g ∧ DrAt g (Dr.new m) E') := by
  refine does_of (fn := Try.f10) Try.func10 rfl Try.ntmps10 (Nat.le_of_ble_eq_true rfl) rfl ?_
  intro w0 hH hR
  replace hH : HH w0 [] [] w0 := hH.only [false]
  refine cxSeq ?_
  refine cxReg ?_
  refine pxV (v := (.pointer none)) (fun _ _ hF => opAssign rfl rfl) rfl (fun _ _ => rfl) (kA rfl) (by decide) ?_
  refine pxEnd ?_
  refine qxThen ?_
  refine cxSeq ?_
  refine cxReg ?_
  refine pxV (v := (.int .i64 (n))) (fun _ _ hF => opMove rfl (hF.ev 1 rfl)) rfl (fun _ _ => rfl) (kM [false, false] rfl rfl) (by decide) ?_
  refine pxV (v := (.int .i64 (max (n) 0))) (fun _ _ hF => opMax rfl (hF.ev 0 rfl) rfl rfl) rfl (fun _ _ => rfl) (kM [false] rfl rfl) (by decide) ?_
  refine pxV (v := (.int .i64 (((m) : Nat) : Int))) (fun _ _ hF => opMin rfl (hF.ev 0 rfl) rfl (hm)) rfl (fun _ _ => rfl) (kM [false] rfl rfl) (by decide) ?_
  refine pxV (v := (.int .i64 (((m) : Nat) : Int))) (fun _ _ hF => opAssign rfl (hF.ev 0 rfl)) rfl (fun _ _ => rfl) (kM [false] rfl rfl) (by decide) ?_
  refine pxEnd ?_
  refine qxThen ?_
  refine cxSeq ?_
  refine cxRegX mixedOrders (by kernel_rfl) ?_
  replace hH := hH.drew
  refine rxV 0 rfl (by kernel_rfl) rfl (fun _ _ => rfl) (fun _ _ hF => opMove rfl (hF.ev 0 rfl)) (kA rfl) (by decide) (v := (.int .i64 (((m) : Nat) : Int))) ?_
  refine rxV 2 rfl (by kernel_rfl) rfl (fun _ _ => rfl) (fun _ _ hF => opMove rfl (hF.ev 1 rfl)) (kM [true, false] rfl rfl) (by decide) (v := (.int .i64 (((m) : Nat) : Int))) ?_
  refine rx2 1 3 (by kernel_rfl) ?_ ?_
  · refine moM rfl hH (fun _ hF => smMake (e := 58) (n := m) (sz := 64) (by_ := 64) (z := (cSec.val (fun _ => 0))) (cs := madeCells (cSec.enc (fun _ => 0)) (m * 64)) rfl (by kernel_rfl) (by kernel_rfl) (hF.ev 1 rfl) (hF.ev 1 rfl) rfl rfl (by omega) (by omega) rfl) trivial rfl (fun _ _ => rfl) (kM [true, false] rfl rfl) (by decide) (PendOk.nil _ []) ?_
    clear hH
    rintro _ _ w ⟨g1, rfl, rfl⟩ hH
    replace hH : HH w0 [] [[bl g1 58 (madeCells (cSec.enc (fun _ => 0)) (m * 64))]] w := hH
    refine ⟨(fun _ hs => by cases hs), ?_⟩
    refine rx1 3 (by kernel_rfl) ?_
    refine moM rfl hH (fun _ hF => smMake (e := 58) (n := m) (sz := 64) (by_ := 64) (z := (cSec.val (fun _ => 0))) (cs := madeCells (cSec.enc (fun _ => 0)) (m * 64)) rfl (by kernel_rfl) (by kernel_rfl) (hF.ev 1 rfl) (hF.ev 1 rfl) rfl rfl (by omega) (by omega) rfl) trivial rfl (fun _ _ => rfl) (kM [true, false] rfl rfl) (by decide) (PendOk.nil _ []) ?_
    clear hH
    rintro _ _ w ⟨g2, rfl, rfl⟩ hH
    replace hH : HH w0 [] [[bl g1 58 (madeCells (cSec.enc (fun _ => 0)) (m * 64))], [bl g2 58 (madeCells (cSec.enc (fun _ => 0)) (m * 64))]] w := hH
    refine ⟨(fun _ hs => by cases hs), ?_⟩
    refine rxV 4 rfl (by kernel_rfl) rfl (fun _ _ => rfl) (fun _ _ hF => opBuildP (cells := #[(.slice (some ⟨g1, 0, none⟩) m m), (.slice (some ⟨g2, 0, none⟩) m m), (.slice none 0 0), (.int .i64 (-1)), (.bool false)]) rfl (EvP.cons (hF.ev 1 rfl) (EvP.cons (hF.ev 0 rfl) (EvP.cons rfl EvP.nil))) rfl _) (kM [false, false] rfl rfl) (by decide) (v := (.agg #[(.slice (some ⟨g1, 0, none⟩) m m), (.slice (some ⟨g2, 0, none⟩) m m), (.slice none 0 0), (.int .i64 (-1)), (.bool false)])) ?_
    refine rx1 5 (by kernel_rfl) ?_
    refine moM rfl hH (fun _ hF => smBox rfl (hF.ev 0 rfl) rfl) trivial rfl (fun _ _ => rfl) (kM [false] rfl rfl) (by decide) (PendOk.nil _ []) ?_
    clear hH
    rintro _ _ w ⟨g3, rfl, rfl⟩ hH
    replace hH : HH w0 [] [[bl g1 58 (madeCells (cSec.enc (fun _ => 0)) (m * 64))], [bl g2 58 (madeCells (cSec.enc (fun _ => 0)) (m * 64))], [bl g3 55 #[(.slice (some ⟨g1, 0, none⟩) m m), (.slice (some ⟨g2, 0, none⟩) m m), (.slice none 0 0), (.int .i64 (-1)), (.bool false)]]] w := hH
    refine ⟨(fun _ hs => by cases hs), ?_⟩
    refine rxV 6 rfl (by kernel_rfl) rfl (fun _ _ => rfl) (fun _ _ hF => opAssign rfl (hF.ev 0 rfl)) (kM [false] rfl rfl) (by decide) (v := (.pointer (some ⟨g3, 0, none⟩))) ?_
    refine rxEnd (by kernel_rfl) ?_
    refine qxThen ?_
    refine cxRet ?_
    refine qxRet1 0 rfl rfl ?_
    replace hH := HH.pad hH 1
    replace hH : HH w0 [] [[bl g3 55 #[(.slice (some ⟨g1, 0, none⟩) m m), (.slice (some ⟨g2, 0, none⟩) m m), (.slice none 0 0), (.int .i64 (-1)), (.bool false)]], [bl g1 58 (madeCells (cSec.enc (fun _ => 0)) (m * 64))], [bl g2 58 (madeCells (cSec.enc (fun _ => 0)) (m * 64))], []] w := HH.sel hH [2, 0, 1, 3] rfl (by decide)
    obtain ⟨E4, hE5, hD6⟩ : ∃ E, E = ([[bl g3 55 #[(.slice (some ⟨g1, 0, none⟩) m m), (.slice (some ⟨g2, 0, none⟩) m m), (.slice none 0 0), (.int .i64 (-1)), (.bool false)]], [bl g1 58 (madeCells (cSec.enc (fun _ => 0)) (m * 64))], [bl g2 58 (madeCells (cSec.enc (fun _ => 0)) (m * 64))], []] : List Hl).flatten ∧ DrAt g3 (Dr.new m) E := ⟨_, rfl, newR_ok hm2, _, _, _, _, _, _, _, _, _, _, _, _, rfl, ((Bk.make (C := cSec) (fun _ => 0) m (ltb rfl) (by unfold maxLen; omega)).own 58 g1 (by rw [List.length_replicate])), ((Bk.make (C := cSec) (fun _ => 0) m (ltb rfl) (by unfold maxLen; omega)).own 58 g2 (by rw [List.length_replicate])), (OwnT.nil cChg 63)⟩
    replace hH : HH w0 [] [E4] w := hH.cast (by rw [hE5]; simp)
    exact ⟨_, _, rfl, ⟨_, rfl, hD6⟩, hH.out1 [true] rfl⟩
  · refine moM rfl hH (fun _ hF => smMake (e := 58) (n := m) (sz := 64) (by_ := 64) (z := (cSec.val (fun _ => 0))) (cs := madeCells (cSec.enc (fun _ => 0)) (m * 64)) rfl (by kernel_rfl) (by kernel_rfl) (hF.ev 0 rfl) (hF.ev 0 rfl) rfl rfl (by omega) (by omega) rfl) trivial rfl (fun _ _ => rfl) (kM [false, true] rfl rfl) (by decide) (PendOk.nil _ []) ?_
    clear hH
    rintro _ _ w ⟨g7, rfl, rfl⟩ hH
    replace hH : HH w0 [] [[bl g7 58 (madeCells (cSec.enc (fun _ => 0)) (m * 64))]] w := hH
    refine ⟨(fun _ hs => by cases hs), ?_⟩
    refine rx1 1 (by kernel_rfl) ?_
    refine moM rfl hH (fun _ hF => smMake (e := 58) (n := m) (sz := 64) (by_ := 64) (z := (cSec.val (fun _ => 0))) (cs := madeCells (cSec.enc (fun _ => 0)) (m * 64)) rfl (by kernel_rfl) (by kernel_rfl) (hF.ev 1 rfl) (hF.ev 1 rfl) rfl rfl (by omega) (by omega) rfl) trivial rfl (fun _ _ => rfl) (kM [true, false] rfl rfl) (by decide) (PendOk.nil _ []) ?_
    clear hH
    rintro _ _ w ⟨g8, rfl, rfl⟩ hH
    replace hH : HH w0 [] [[bl g7 58 (madeCells (cSec.enc (fun _ => 0)) (m * 64))], [bl g8 58 (madeCells (cSec.enc (fun _ => 0)) (m * 64))]] w := hH
    refine ⟨(fun _ hs => by cases hs), ?_⟩
    refine rxV 4 rfl (by kernel_rfl) rfl (fun _ _ => rfl) (fun _ _ hF => opBuildP (cells := #[(.slice (some ⟨g8, 0, none⟩) m m), (.slice (some ⟨g7, 0, none⟩) m m), (.slice none 0 0), (.int .i64 (-1)), (.bool false)]) rfl (EvP.cons (hF.ev 0 rfl) (EvP.cons (hF.ev 1 rfl) (EvP.cons rfl EvP.nil))) rfl _) (kM [false, false] rfl rfl) (by decide) (v := (.agg #[(.slice (some ⟨g8, 0, none⟩) m m), (.slice (some ⟨g7, 0, none⟩) m m), (.slice none 0 0), (.int .i64 (-1)), (.bool false)])) ?_
    refine rx1 5 (by kernel_rfl) ?_
    refine moM rfl hH (fun _ hF => smBox rfl (hF.ev 0 rfl) rfl) trivial rfl (fun _ _ => rfl) (kM [false] rfl rfl) (by decide) (PendOk.nil _ []) ?_
    clear hH
    rintro _ _ w ⟨g9, rfl, rfl⟩ hH
    replace hH : HH w0 [] [[bl g7 58 (madeCells (cSec.enc (fun _ => 0)) (m * 64))], [bl g8 58 (madeCells (cSec.enc (fun _ => 0)) (m * 64))], [bl g9 55 #[(.slice (some ⟨g8, 0, none⟩) m m), (.slice (some ⟨g7, 0, none⟩) m m), (.slice none 0 0), (.int .i64 (-1)), (.bool false)]]] w := hH
    refine ⟨(fun _ hs => by cases hs), ?_⟩
    refine rxV 6 rfl (by kernel_rfl) rfl (fun _ _ => rfl) (fun _ _ hF => opAssign rfl (hF.ev 0 rfl)) (kM [false] rfl rfl) (by decide) (v := (.pointer (some ⟨g9, 0, none⟩))) ?_
    refine rxEnd (by kernel_rfl) ?_
    refine qxThen ?_
    refine cxRet ?_
    refine qxRet1 0 rfl rfl ?_
    replace hH := HH.pad hH 1
    replace hH : HH w0 [] [[bl g9 55 #[(.slice (some ⟨g8, 0, none⟩) m m), (.slice (some ⟨g7, 0, none⟩) m m), (.slice none 0 0), (.int .i64 (-1)), (.bool false)]], [bl g8 58 (madeCells (cSec.enc (fun _ => 0)) (m * 64))], [bl g7 58 (madeCells (cSec.enc (fun _ => 0)) (m * 64))], []] w := HH.sel hH [2, 1, 0, 3] rfl (by decide)
    obtain ⟨E10, hE11, hD12⟩ : ∃ E, E = ([[bl g9 55 #[(.slice (some ⟨g8, 0, none⟩) m m), (.slice (some ⟨g7, 0, none⟩) m m), (.slice none 0 0), (.int .i64 (-1)), (.bool false)]], [bl g8 58 (madeCells (cSec.enc (fun _ => 0)) (m * 64))], [bl g7 58 (madeCells (cSec.enc (fun _ => 0)) (m * 64))], []] : List Hl).flatten ∧ DrAt g9 (Dr.new m) E := ⟨_, rfl, newR_ok hm2, _, _, _, _, _, _, _, _, _, _, _, _, rfl, ((Bk.make (C := cSec) (fun _ => 0) m (ltb rfl) (by unfold maxLen; omega)).own 58 g8 (by rw [List.length_replicate])), ((Bk.make (C := cSec) (fun _ => 0) m (ltb rfl) (by unfold maxLen; omega)).own 58 g7 (by rw [List.length_replicate])), (OwnT.nil cChg 63)⟩
    replace hH : HH w0 [] [E10] w := hH.cast (by rw [hE11]; simp)
    exact ⟨_, _, rfl, ⟨_, rfl, hD12⟩, hH.out1 [true] rfl⟩

def Dr.has (D : Dr) (at_ n : Int) : Prop := 0 ≤ at_ ∧ 0 ≤ n ∧ n ≤ (D.is.length : Int) - at_
instance (D : Dr) (at_ n : Int) : Decidable (D.has at_ n) := by unfold Dr.has; infer_instance
def Dr.reads (D : Dr) (at_ n : Int) : Nat × List UInt8 :=
  if ¬ D.has at_ n then (1, []) else if D.gone = true then (8, []) else (0, unsec ((D.is.take (at_.toNat + n.toNat)).drop at_.toNat))

theorem readR_at {l : List Sec} {p n i : Nat} {x : Sec} (hx : l[p + i]? = some x) (hi : i < n) : ((l.take (p + n)).drop p)[i]? = some x := by
  rw [List.getElem?_drop, List.getElem?_take, if_pos (by omega)]; exact hx

set_option maxHeartbeats 8000000 in
theorem readR_c (g : Nat) (D : Dr) (E : Hl) (hD : DrAt g D E) (at_ n : Int) (h1 : -9223372036854775808 ≤ at_) (h2 : at_ ≤ 9223372036854775807) : Does Try.prog 25 #[(.pointer (some ⟨g, 0, none⟩)), (.int .i64 (at_)), (.int .i64 (n))] E (fun _ => True) (fun v E' => ∃ s E1 E2, v = .tuple #[s, .int .i64 ((D.reads at_ n).1 : Int)] ∧ E' = ([E2, E1] : List Hl).flatten ∧ DrAt g D E2 ∧ OwnT cByte 5 s (D.reads at_ n).2 E1) := by
  refine does_of (fn := Try.f25) Try.func25 rfl Try.ntmps25 (Nat.le_of_ble_eq_true rfl) rfl ?_
  intro w0 hH hR
  have hsz := hD.ok.sz
  refine cxSeq ?_
  refine cxReg ?_
  refine pxV (v := (.slice none 0 0)) (fun _ _ hF => opAssign rfl rfl) rfl (fun _ _ => rfl) (kA rfl) (by decide) ?_
  refine pxV (v := (.int .i64 0)) (fun _ _ hF => opAssign rfl rfl) rfl (fun _ _ => rfl) (kM [false, true, true, true] rfl rfl) (by decide) ?_
  refine pxEnd ?_
  refine qxThen ?_
  refine cxSeq ?_
  refine cxSeq ?_
  refine cxReg ?_
  refine pxV (v := (.int .i64 (at_))) (fun _ _ hF => opMove rfl (hF.ev 2 rfl)) rfl (fun _ _ => rfl) (kM [false, true, true, true] rfl rfl) (by decide) ?_
  refine pxV (v := (.bool (decide ((at_) < 0)))) (fun _ _ hF => opLss rfl (hF.ev 0 rfl) rfl rfl) rfl (fun _ _ => rfl) (kM [false, true, true, true] rfl rfl) (by decide) ?_
  refine pxV (v := (.bool (decide ((at_) < 0)))) (fun _ _ hF => opMove rfl (hF.ev 0 rfl)) rfl (fun _ _ => rfl) (kM [false, true, true, true] rfl rfl) (by decide) ?_
  refine pxSplitP 0 rfl (l1 := [(12, (.bool true)), (0, (.pointer (some ⟨g, 0, none⟩))), (1, (.int .i64 (at_))), (2, (.int .i64 (n)))]) (l2 := [(12, (.bool false)), (0, (.pointer (some ⟨g, 0, none⟩))), (1, (.int .i64 (at_))), (2, (.int .i64 (n)))]) rfl rfl (fun hg1 => ?_) (fun hg1 => ?_)
  · refine pxU rfl (gOff 0 rfl rfl rfl (by decide)) (kA rfl) (by decide) ?_
    refine pxU rfl (gOff 0 rfl rfl rfl (by decide)) (kA rfl) (by decide) ?_
    refine pxV (v := (.bool true)) (fun _ _ hF => opPickT rfl (hF.ev 0 rfl) rfl) rfl (fun _ _ => rfl) (kM [false, true, true, true] rfl rfl) (by decide) ?_
    refine pxV (v := (.bool true)) (fun _ _ hF => opMove rfl (hF.ev 0 rfl)) rfl (fun _ _ => rfl) (kM [false, true, true, true] rfl rfl) (by decide) ?_
    refine pxU rfl (gOff 0 rfl rfl rfl (by decide)) (kA rfl) (by decide) ?_
    refine pxU rfl (gOff 0 rfl rfl rfl (by decide)) (kA rfl) (by decide) ?_
    refine pxU rfl (gOff 0 rfl rfl rfl (by decide)) (kA rfl) (by decide) ?_
    refine pxU rfl (gOff 0 rfl rfl rfl (by decide)) (kA rfl) (by decide) ?_
    refine pxU rfl (gOff 0 rfl rfl rfl (by decide)) (kA rfl) (by decide) ?_
    refine pxU rfl (gOff 0 rfl rfl rfl (by decide)) (kA rfl) (by decide) ?_
    refine pxU rfl (gOff 0 rfl rfl rfl (by decide)) (kA rfl) (by decide) ?_
    refine pxV (v := (.bool true)) (fun _ _ hF => opPickT rfl (hF.ev 0 rfl) rfl) rfl (fun _ _ => rfl) (kM [false, true, true, true] rfl rfl) (by decide) ?_
    refine pxV (v := (.bool true)) (fun _ _ hF => opMove rfl (hF.ev 0 rfl)) rfl (fun _ _ => rfl) (kM [false, true, true, true] rfl rfl) (by decide) ?_
    refine pxU rfl (gOff 0 rfl rfl rfl (by decide)) (kA rfl) (by decide) ?_
    refine pxU rfl (gOff 0 rfl rfl rfl (by decide)) (kA rfl) (by decide) ?_
    refine pxU rfl (gOff 0 rfl rfl rfl (by decide)) (kA rfl) (by decide) ?_
    refine pxU rfl (gOff 0 rfl rfl rfl (by decide)) (kA rfl) (by decide) ?_
    refine pxU rfl (gOff 0 rfl rfl rfl (by decide)) (kA rfl) (by decide) ?_
    refine pxU rfl (gOff 0 rfl rfl rfl (by decide)) (kA rfl) (by decide) ?_
    refine pxU rfl (gOff 0 rfl rfl rfl (by decide)) (kA rfl) (by decide) ?_
    refine pxU rfl (gOff 0 rfl rfl rfl (by decide)) (kA rfl) (by decide) ?_
    refine pxU rfl (gOff 0 rfl rfl rfl (by decide)) (kA rfl) (by decide) ?_
    refine pxV (v := (.bool true)) (fun _ _ hF => opPickT rfl (hF.ev 0 rfl) rfl) rfl (fun _ _ => rfl) (kM [false, true, true, true] rfl rfl) (by decide) ?_
    refine pxEnd ?_
    refine qxThen ?_
    refine cxT 0 rfl rfl ?_
    refine cxSeq ?_
    refine cxReg ?_
    refine pxV (v := (.slice none 0 0)) (fun _ _ hF => opAssign rfl rfl) rfl (fun _ _ => rfl) (kM [false, false, false, false] rfl rfl) (by decide) ?_
    refine pxV (v := (.int .i64 1)) (fun _ _ hF => opAssign rfl rfl) rfl (fun _ _ => rfl) (kA rfl) (by decide) ?_
    refine pxEnd ?_
    refine qxThen ?_
    refine cxRet ?_
    refine qxThenR ?_
    refine qxRet2 1 0 rfl rfl rfl ?_
    have hh : ¬ D.has at_ n := by unfold Dr.has; omega
    have he : D.reads at_ n = (1, []) := by unfold Dr.reads; rw [if_pos hh]
    exact ⟨_, _, rfl, ⟨_, _, _, by rw [he]; rfl, rfl, hD, by rw [he]; exact OwnT.nil _ _⟩, HH.out (HH.pad hH 1) [true, true]⟩
  · refine pxV (v := (.int .i64 (n))) (fun _ _ hF => opMove rfl (hF.ev 3 rfl)) rfl (gOn 0 rfl rfl rfl (by decide)) (kA rfl) (by decide) ?_
    refine pxV (v := (.bool (decide ((n) < 0)))) (fun _ _ hF => opLss rfl (hF.ev 0 rfl) rfl rfl) rfl (gOn 1 rfl rfl rfl (by decide)) (kM [false, true, true, true, true] rfl rfl) (by decide) ?_
    refine pxV (v := (.bool (decide ((n) < 0)))) (fun _ _ hF => opPickF rfl (hF.ev 1 rfl) (hF.ev 0 rfl)) rfl (fun _ _ => rfl) (kM [false, false, true, true, true] rfl rfl) (by decide) ?_
    refine pxV (v := (.bool (decide ((n) < 0)))) (fun _ _ hF => opMove rfl (hF.ev 0 rfl)) rfl (fun _ _ => rfl) (kM [false, true, true, true] rfl rfl) (by decide) ?_
    refine pxSplitP 0 rfl (l1 := [(16, (.bool true)), (0, (.pointer (some ⟨g, 0, none⟩))), (1, (.int .i64 (at_))), (2, (.int .i64 (n)))]) (l2 := [(16, (.bool false)), (0, (.pointer (some ⟨g, 0, none⟩))), (1, (.int .i64 (at_))), (2, (.int .i64 (n)))]) rfl rfl (fun hg2 => ?_) (fun hg2 => ?_)
    · refine pxU rfl (gOff 0 rfl rfl rfl (by decide)) (kA rfl) (by decide) ?_
      refine pxU rfl (gOff 0 rfl rfl rfl (by decide)) (kA rfl) (by decide) ?_
      refine pxU rfl (gOff 0 rfl rfl rfl (by decide)) (kA rfl) (by decide) ?_
      refine pxU rfl (gOff 0 rfl rfl rfl (by decide)) (kA rfl) (by decide) ?_
      refine pxU rfl (gOff 0 rfl rfl rfl (by decide)) (kA rfl) (by decide) ?_
      refine pxU rfl (gOff 0 rfl rfl rfl (by decide)) (kA rfl) (by decide) ?_
      refine pxU rfl (gOff 0 rfl rfl rfl (by decide)) (kA rfl) (by decide) ?_
      refine pxV (v := (.bool true)) (fun _ _ hF => opPickT rfl (hF.ev 0 rfl) rfl) rfl (fun _ _ => rfl) (kM [false, true, true, true] rfl rfl) (by decide) ?_
      refine pxV (v := (.bool true)) (fun _ _ hF => opMove rfl (hF.ev 0 rfl)) rfl (fun _ _ => rfl) (kM [false, true, true, true] rfl rfl) (by decide) ?_
      refine pxU rfl (gOff 0 rfl rfl rfl (by decide)) (kA rfl) (by decide) ?_
      refine pxU rfl (gOff 0 rfl rfl rfl (by decide)) (kA rfl) (by decide) ?_
      refine pxU rfl (gOff 0 rfl rfl rfl (by decide)) (kA rfl) (by decide) ?_
      refine pxU rfl (gOff 0 rfl rfl rfl (by decide)) (kA rfl) (by decide) ?_
      refine pxU rfl (gOff 0 rfl rfl rfl (by decide)) (kA rfl) (by decide) ?_
      refine pxU rfl (gOff 0 rfl rfl rfl (by decide)) (kA rfl) (by decide) ?_
      refine pxU rfl (gOff 0 rfl rfl rfl (by decide)) (kA rfl) (by decide) ?_
      refine pxU rfl (gOff 0 rfl rfl rfl (by decide)) (kA rfl) (by decide) ?_
      refine pxU rfl (gOff 0 rfl rfl rfl (by decide)) (kA rfl) (by decide) ?_
      refine pxV (v := (.bool true)) (fun _ _ hF => opPickT rfl (hF.ev 0 rfl) rfl) rfl (fun _ _ => rfl) (kM [false, true, true, true] rfl rfl) (by decide) ?_
      refine pxEnd ?_
      refine qxThen ?_
      refine cxT 0 rfl rfl ?_
      refine cxSeq ?_
      refine cxReg ?_
      refine pxV (v := (.slice none 0 0)) (fun _ _ hF => opAssign rfl rfl) rfl (fun _ _ => rfl) (kM [false, false, false, false] rfl rfl) (by decide) ?_
      refine pxV (v := (.int .i64 1)) (fun _ _ hF => opAssign rfl rfl) rfl (fun _ _ => rfl) (kA rfl) (by decide) ?_
      refine pxEnd ?_
      refine qxThen ?_
      refine cxRet ?_
      refine qxThenR ?_
      refine qxRet2 1 0 rfl rfl rfl ?_
      have hh : ¬ D.has at_ n := by unfold Dr.has; omega
      have he : D.reads at_ n = (1, []) := by unfold Dr.reads; rw [if_pos hh]
      exact ⟨_, _, rfl, ⟨_, _, _, by rw [he]; rfl, rfl, hD, by rw [he]; exact OwnT.nil _ _⟩, HH.out (HH.pad hH 1) [true, true]⟩
    · refine pxV (v := (.int .i64 (at_))) (fun _ _ hF => opMove rfl (hF.ev 2 rfl)) rfl (gOn 0 rfl rfl rfl (by decide)) (kA rfl) (by decide) ?_
      refine pxV (v := (.pointer (some ⟨g, 0, none⟩))) (fun _ _ hF => opMove rfl (hF.ev 2 rfl)) rfl (gOn 1 rfl rfl rfl (by decide)) (kA rfl) (by decide) ?_
      refine pxV (v := (.pointer (some ⟨g, 0, none⟩))) (fun _ _ hF => opNilCheck rfl (hF.ev 0 rfl)) rfl (gOn 2 rfl rfl rfl (by decide)) (kM [false, true, true, true, true, true] rfl rfl) (by decide) ?_
      refine pxV (v := (.pointer (some ⟨g, 0, none⟩))) (fun _ _ hF => opField (off := 0) rfl (hF.ev 0 rfl) (by kernel_rfl)) rfl (gOn 2 rfl rfl rfl (by decide)) (kM [false, true, true, true, true, true] rfl rfl) (by decide) ?_
      obtain ⟨A3, n4, c5, E6, A7, n8, c9, E10, A11, n12, c13, E14, hE18, hO15, hO16, hO17⟩ := hD.at'
      obtain rfl : n4 = D.is.length := hO15.len
      obtain rfl : n8 = D.kept.length := hO16.len
      obtain rfl : n12 = D.l.length := hO17.len
      replace hH : HH w0 (bks E) [[bl g 55 #[(.slice A3 D.is.length c5), (.slice A7 D.kept.length c9), (.slice A11 D.l.length c13), (.int .i64 (D.fuse)), (.bool (D.gone))]], E6, E10, E14] w0 := hH.cast (by rw [hE18]; simp)
      refine pxS (v := (.slice A3 D.is.length c5)) (fun w => w.heap[g]? = some (.cells #[(.slice A3 D.is.length c5), (.slice A7 D.kept.length c9), (.slice A11 D.l.length c13), (.int .i64 (D.fuse)), (.bool (D.gone))] 55 (0, 0))) (hH.blk 0 rfl) (fun _ _ hF hS => opLoadK hS rfl (hF.ev 0 rfl) (by kernel_rfl) rfl) rfl (gOn 2 rfl rfl rfl (by decide)) (kM [false, true, true, true, true, true] rfl rfl) (by decide) ?_
      refine pxV (v := (.int .i64 (((D.is.length) : Nat) : Int))) (fun _ _ hF => opLen (e := 58) rfl (by kernel_rfl) (hF.ev 0 rfl)) rfl (gOn 2 rfl rfl rfl (by decide)) (kM [false, true, true, true, true, true] rfl rfl) (by decide) ?_
      refine pxV (v := (.bool (decide ((at_) > (((D.is.length) : Nat) : Int))))) (fun _ _ hF => opGtr rfl (hF.ev 1 rfl) (hF.ev 0 rfl) rfl) rfl (gOn 2 rfl rfl rfl (by decide)) (kM [false, false, true, true, true, true] rfl rfl) (by decide) ?_
      refine pxV (v := (.bool (decide ((at_) > (((D.is.length) : Nat) : Int))))) (fun _ _ hF => opPickF rfl (hF.ev 1 rfl) (hF.ev 0 rfl)) rfl (fun _ _ => rfl) (kM [false, false, true, true, true] rfl rfl) (by decide) ?_
      refine pxV (v := (.bool (decide ((at_) > (((D.is.length) : Nat) : Int))))) (fun _ _ hF => opMove rfl (hF.ev 0 rfl)) rfl (fun _ _ => rfl) (kM [false, true, true, true] rfl rfl) (by decide) ?_
      refine pxSplitP 0 rfl (l1 := [(25, (.bool true)), (0, (.pointer (some ⟨g, 0, none⟩))), (1, (.int .i64 (at_))), (2, (.int .i64 (n)))]) (l2 := [(25, (.bool false)), (0, (.pointer (some ⟨g, 0, none⟩))), (1, (.int .i64 (at_))), (2, (.int .i64 (n)))]) rfl rfl (fun hg19 => ?_) (fun hg19 => ?_)
      · refine pxU rfl (gOff 0 rfl rfl rfl (by decide)) (kA rfl) (by decide) ?_
        refine pxU rfl (gOff 0 rfl rfl rfl (by decide)) (kA rfl) (by decide) ?_
        refine pxU rfl (gOff 0 rfl rfl rfl (by decide)) (kA rfl) (by decide) ?_
        refine pxU rfl (gOff 0 rfl rfl rfl (by decide)) (kA rfl) (by decide) ?_
        refine pxU rfl (gOff 0 rfl rfl rfl (by decide)) (kA rfl) (by decide) ?_
        refine pxU rfl (gOff 0 rfl rfl rfl (by decide)) (kA rfl) (by decide) ?_
        refine pxU rfl (gOff 0 rfl rfl rfl (by decide)) (kA rfl) (by decide) ?_
        refine pxU rfl (gOff 0 rfl rfl rfl (by decide)) (kA rfl) (by decide) ?_
        refine pxU rfl (gOff 0 rfl rfl rfl (by decide)) (kA rfl) (by decide) ?_
        refine pxV (v := (.bool true)) (fun _ _ hF => opPickT rfl (hF.ev 0 rfl) rfl) rfl (fun _ _ => rfl) (kM [false, true, true, true] rfl rfl) (by decide) ?_
        refine pxEnd ?_
        refine qxThen ?_
        refine cxT 0 rfl rfl ?_
        refine cxSeq ?_
        refine cxReg ?_
        refine pxV (v := (.slice none 0 0)) (fun _ _ hF => opAssign rfl rfl) rfl (fun _ _ => rfl) (kM [false, false, false, false] rfl rfl) (by decide) ?_
        refine pxV (v := (.int .i64 1)) (fun _ _ hF => opAssign rfl rfl) rfl (fun _ _ => rfl) (kA rfl) (by decide) ?_
        refine pxEnd ?_
        refine qxThen ?_
        refine cxRet ?_
        refine qxThenR ?_
        refine qxRet2 1 0 rfl rfl rfl ?_
        have hh : ¬ D.has at_ n := by unfold Dr.has; omega
        have he : D.reads at_ n = (1, []) := by unfold Dr.reads; rw [if_pos hh]
        obtain ⟨E20, hE21, hD22⟩ : ∃ E, E = ([[bl g 55 #[(.slice A3 D.is.length c5), (.slice A7 D.kept.length c9), (.slice A11 D.l.length c13), (.int .i64 (D.fuse)), (.bool (D.gone))]], E6, E10, E14] : List Hl).flatten ∧ DrAt g D E := ⟨_, rfl, hD.ok, _, _, _, _, _, _, _, _, _, _, _, _, rfl, hO15, hO16, hO17⟩
        replace hH : HH w0 (bks E) [E20] w0 := hH.cast (by rw [hE21]; simp)
        exact ⟨_, _, rfl, ⟨_, _, _, by rw [he]; rfl, rfl, hD22, by rw [he]; exact OwnT.nil _ _⟩, HH.out (HH.pad hH 1) [true, true]⟩
      · refine pxV (v := (.int .i64 (n))) (fun _ _ hF => opMove rfl (hF.ev 3 rfl)) rfl (gOn 0 rfl rfl rfl (by decide)) (kA rfl) (by decide) ?_
        refine pxV (v := (.pointer (some ⟨g, 0, none⟩))) (fun _ _ hF => opMove rfl (hF.ev 2 rfl)) rfl (gOn 1 rfl rfl rfl (by decide)) (kA rfl) (by decide) ?_
        refine pxV (v := (.pointer (some ⟨g, 0, none⟩))) (fun _ _ hF => opNilCheck rfl (hF.ev 0 rfl)) rfl (gOn 2 rfl rfl rfl (by decide)) (kM [false, true, true, true, true, true] rfl rfl) (by decide) ?_
        refine pxV (v := (.pointer (some ⟨g, 0, none⟩))) (fun _ _ hF => opField (off := 0) rfl (hF.ev 0 rfl) (by kernel_rfl)) rfl (gOn 2 rfl rfl rfl (by decide)) (kM [false, true, true, true, true, true] rfl rfl) (by decide) ?_
        refine pxS (v := (.slice A3 D.is.length c5)) (fun w => w.heap[g]? = some (.cells #[(.slice A3 D.is.length c5), (.slice A7 D.kept.length c9), (.slice A11 D.l.length c13), (.int .i64 (D.fuse)), (.bool (D.gone))] 55 (0, 0))) (hH.blk 0 rfl) (fun _ _ hF hS => opLoadK hS rfl (hF.ev 0 rfl) (by kernel_rfl) rfl) rfl (gOn 2 rfl rfl rfl (by decide)) (kM [false, true, true, true, true, true] rfl rfl) (by decide) ?_
        refine pxV (v := (.int .i64 (((D.is.length) : Nat) : Int))) (fun _ _ hF => opLen (e := 58) rfl (by kernel_rfl) (hF.ev 0 rfl)) rfl (gOn 2 rfl rfl rfl (by decide)) (kM [false, true, true, true, true, true] rfl rfl) (by decide) ?_
        refine pxV (v := (.int .i64 (at_))) (fun _ _ hF => opMove rfl (hF.ev 4 rfl)) rfl (gOn 2 rfl rfl rfl (by decide)) (kA rfl) (by decide) ?_
        refine pxV (v := (.int .i64 ((((D.is.length) : Nat) : Int) - (at_)))) (fun _ _ hF => opSub rfl (hF.ev 1 rfl) (hF.ev 0 rfl) (wI rfl (by omega) (by omega))) rfl (gOn 3 rfl rfl rfl (by decide)) (kM [false, false, true, true, true, true, true] rfl rfl) (by decide) ?_
        refine pxV (v := (.bool (decide ((n) > ((((D.is.length) : Nat) : Int) - (at_)))))) (fun _ _ hF => opGtr rfl (hF.ev 1 rfl) (hF.ev 0 rfl) rfl) rfl (gOn 2 rfl rfl rfl (by decide)) (kM [false, false, true, true, true, true] rfl rfl) (by decide) ?_
        refine pxV (v := (.bool (decide ((n) > ((((D.is.length) : Nat) : Int) - (at_)))))) (fun _ _ hF => opPickF rfl (hF.ev 1 rfl) (hF.ev 0 rfl)) rfl (fun _ _ => rfl) (kM [false, false, true, true, true] rfl rfl) (by decide) ?_
        refine pxEnd ?_
        refine qxThen ?_
        refine cxP 0 rfl rfl (fun hc23 => ?_) (fun hc23 => ?_)
        · refine cxSeq ?_
          refine cxReg ?_
          refine pxV (v := (.slice none 0 0)) (fun _ _ hF => opAssign rfl rfl) rfl (fun _ _ => rfl) (kM [false, false, false, false] rfl rfl) (by decide) ?_
          refine pxV (v := (.int .i64 1)) (fun _ _ hF => opAssign rfl rfl) rfl (fun _ _ => rfl) (kA rfl) (by decide) ?_
          refine pxEnd ?_
          refine qxThen ?_
          refine cxRet ?_
          refine qxThenR ?_
          refine qxRet2 1 0 rfl rfl rfl ?_
          have hh : ¬ D.has at_ n := by unfold Dr.has; omega
          have he : D.reads at_ n = (1, []) := by unfold Dr.reads; rw [if_pos hh]
          obtain ⟨E24, hE25, hD26⟩ : ∃ E, E = ([[bl g 55 #[(.slice A3 D.is.length c5), (.slice A7 D.kept.length c9), (.slice A11 D.l.length c13), (.int .i64 (D.fuse)), (.bool (D.gone))]], E6, E10, E14] : List Hl).flatten ∧ DrAt g D E := ⟨_, rfl, hD.ok, _, _, _, _, _, _, _, _, _, _, _, _, rfl, hO15, hO16, hO17⟩
          replace hH : HH w0 (bks E) [E24] w0 := hH.cast (by rw [hE25]; simp)
          exact ⟨_, _, rfl, ⟨_, _, _, by rw [he]; rfl, rfl, hD26, by rw [he]; exact OwnT.nil _ _⟩, HH.out (HH.pad hH 1) [true, true]⟩
        · refine cxSkip ?_
          refine qxThen ?_
          refine cxSeq ?_
          refine cxSeq ?_
          refine cxReg ?_
          refine pxV (v := (.pointer (some ⟨g, 0, none⟩))) (fun _ _ hF => opMove rfl (hF.ev 1 rfl)) rfl (fun _ _ => rfl) (kM [false, true, true, true] rfl rfl) (by decide) ?_
          refine pxV (v := (.pointer (some ⟨g, 0, none⟩))) (fun _ _ hF => opNilCheck rfl (hF.ev 0 rfl)) rfl (fun _ _ => rfl) (kM [false, true, true, true] rfl rfl) (by decide) ?_
          refine pxV (v := (.pointer (some ⟨g, 4, none⟩))) (fun _ _ hF => opField (off := 4) rfl (hF.ev 0 rfl) (by kernel_rfl)) rfl (fun _ _ => rfl) (kM [false, true, true, true] rfl rfl) (by decide) ?_
          refine pxS (v := (.bool (D.gone))) (fun w => w.heap[g]? = some (.cells #[(.slice A3 D.is.length c5), (.slice A7 D.kept.length c9), (.slice A11 D.l.length c13), (.int .i64 (D.fuse)), (.bool (D.gone))] 55 (0, 0))) (hH.blk 0 rfl) (fun _ _ hF hS => opLoadK hS rfl (hF.ev 0 rfl) (by kernel_rfl) rfl) rfl (fun _ _ => rfl) (kM [false, true, true, true] rfl rfl) (by decide) ?_
          refine pxEnd ?_
          refine qxThen ?_
          refine cxB 0 rfl rfl (fun hc27 => ?_) (fun hc27 => ?_)
          · refine cxSeq ?_
            refine cxReg ?_
            refine pxV (v := (.slice none 0 0)) (fun _ _ hF => opAssign rfl rfl) rfl (fun _ _ => rfl) (kM [false, false, false, false] rfl rfl) (by decide) ?_
            refine pxV (v := (.int .i64 8)) (fun _ _ hF => opAssign rfl rfl) rfl (fun _ _ => rfl) (kA rfl) (by decide) ?_
            refine pxEnd ?_
            refine qxThen ?_
            refine cxRet ?_
            refine qxThenR ?_
            refine qxRet2 1 0 rfl rfl rfl ?_
            have hh : D.has at_ n := by unfold Dr.has; omega
            have he : D.reads at_ n = (8, []) := by unfold Dr.reads; rw [if_neg (not_not_intro hh), if_pos hc27]
            obtain ⟨E28, hE29, hD30⟩ : ∃ E, E = ([[bl g 55 #[(.slice A3 D.is.length c5), (.slice A7 D.kept.length c9), (.slice A11 D.l.length c13), (.int .i64 (D.fuse)), (.bool (D.gone))]], E6, E10, E14] : List Hl).flatten ∧ DrAt g D E := ⟨_, rfl, hD.ok, _, _, _, _, _, _, _, _, _, _, _, _, rfl, hO15, hO16, hO17⟩
            replace hH : HH w0 (bks E) [E28] w0 := hH.cast (by rw [hE29]; simp)
            exact ⟨_, _, rfl, ⟨_, _, _, by rw [he]; rfl, rfl, hD30, by rw [he]; exact OwnT.nil _ _⟩, HH.out (HH.pad hH 1) [true, true]⟩
          · have hh : D.has at_ n := by unfold Dr.has; omega
            refine cxSkip ?_
            refine qxThen ?_
            refine cxSeq ?_
            refine cxReg ?_
            refine pxV (v := (.slice none 0 0)) (fun _ _ hF => opAssign rfl rfl) rfl (fun _ _ => rfl) (kM [false, true, true, true] rfl rfl) (by decide) ?_
            refine pxEnd ?_
            refine qxThen ?_
            refine cxSeq ?_
            refine cxSeq ?_
            refine cxReg ?_
            refine pxV (v := (.int .i64 (n))) (fun _ _ hF => opMove rfl (hF.ev 3 rfl)) rfl (fun _ _ => rfl) (kM [true, true, true, false] rfl rfl) (by decide) ?_
            refine pxV (v := (.int .i64 0)) (fun _ _ hF => opMove rfl rfl) rfl (fun _ _ => rfl) (kA rfl) (by decide) ?_
            refine pxEnd ?_
            refine qxThen ?_
            refine cxBlock ?_
            replace hH := HH.pad hH 1
            refine cxLoop (σ := Nat × (Option Addr) × Nat × (List UInt8) × Hl) (fun x => [(41, (.int .i64 (((x.1) : Nat) : Int))), (40, (.int .i64 (n))), (8, (.slice x.2.1 x.2.2.2.1.length x.2.2.1)), (1, (.int .i64 (at_))), (0, (.pointer (some ⟨g, 0, none⟩)))]) (fun x w => HH w0 (bks E) [[bl g 55 #[(.slice A3 D.is.length c5), (.slice A7 D.kept.length c9), (.slice A11 D.l.length c13), (.int .i64 (D.fuse)), (.bool (D.gone))]], E6, E10, E14, x.2.2.2.2] w ∧ ((x.1 : Int) ≤ n) ∧ (OwnT cByte 5 (.slice x.2.1 x.2.2.2.1.length x.2.2.1) x.2.2.2.1 x.2.2.2.2) ∧ (x.2.2.2.1 = unsec (((D.is.take (at_.toNat + n.toNat)).drop at_.toNat).take x.1)) ∧ (x.2.2.2.1.length = x.1 * 64)) (fun x => n.toNat - x.1) (0, none, 0, [], []) ⟨hH, (by omega), (OwnT.nil _ _), (by simp [unsec]), rfl⟩ (slots_at [0, 1, 2, 4, 3] rfl) ?_
            clear hH
            rintro ⟨i, Ao, co, L, Eo⟩ w ⟨hH, hi, hO, hL, hl⟩
            change CX _ _ _ _ [(41, (.int .i64 (((i) : Nat) : Int))), (40, (.int .i64 (n))), (8, (.slice Ao L.length co)), (1, (.int .i64 (at_))), (0, (.pointer (some ⟨g, 0, none⟩)))] _
            replace hH : HH w0 (bks E) [[bl g 55 #[(.slice A3 D.is.length c5), (.slice A7 D.kept.length c9), (.slice A11 D.l.length c13), (.int .i64 (D.fuse)), (.bool (D.gone))]], E6, E10, E14, Eo] w := hH
            replace hi : (i : Int) ≤ n := hi
            replace hO : OwnT cByte 5 (.slice Ao L.length co) L Eo := hO
            replace hL : L = unsec (((D.is.take (at_.toNat + n.toNat)).drop at_.toNat).take i) := hL
            replace hl : L.length = i * 64 := hl
            refine cxSeq ?_
            refine cxReg ?_
            refine pxV (v := (.bool (decide ((((i) : Nat) : Int) < (n))))) (fun _ _ hF => opLss rfl (hF.ev 0 rfl) (hF.ev 1 rfl) rfl) rfl (fun _ _ => rfl) (kA rfl) (by decide) ?_
            refine pxEnd ?_
            refine qxThen ?_
            refine cxSeq ?_
            refine cxP 0 rfl rfl (fun hc31 => ?_) (fun hc31 => ?_)
            · refine cxSkip ?_
              refine qxThen ?_
              refine cxSeq ?_
              refine cxBlock ?_
              refine cxSeq ?_
              refine cxReg ?_
              refine pxV (v := (.int .i64 (((i) : Nat) : Int))) (fun _ _ hF => opMove rfl (hF.ev 1 rfl)) rfl (fun _ _ => rfl) (kM [false, true, true, true, true, true] rfl rfl) (by decide) ?_
              refine pxV (v := (.int .i64 (((i) : Nat) : Int))) (fun _ _ hF => opAssign rfl (hF.ev 0 rfl)) rfl (fun _ _ => rfl) (kM [false, true, true, true, true, true] rfl rfl) (by decide) ?_
              refine pxEnd ?_
              refine qxThen ?_
              refine cxReg ?_
              refine pxV (v := (.slice Ao L.length co)) (fun _ _ hF => opMove rfl (hF.ev 3 rfl)) rfl (fun _ _ => rfl) (kM [true, true, true, false, true, true] rfl rfl) (by decide) ?_
              refine pxV (v := (.pointer (some ⟨g, 0, none⟩))) (fun _ _ hF => opMove rfl (hF.ev 5 rfl)) rfl (fun _ _ => rfl) (kA rfl) (by decide) ?_
              refine pxV (v := (.pointer (some ⟨g, 0, none⟩))) (fun _ _ hF => opNilCheck rfl (hF.ev 0 rfl)) rfl (fun _ _ => rfl) (kM [false, true, true, true, true, true, true] rfl rfl) (by decide) ?_
              refine pxV (v := (.pointer (some ⟨g, 0, none⟩))) (fun _ _ hF => opField (off := 0) rfl (hF.ev 0 rfl) (by kernel_rfl)) rfl (fun _ _ => rfl) (kM [false, true, true, true, true, true, true] rfl rfl) (by decide) ?_
              refine pxS (v := (.slice A3 D.is.length c5)) (fun w => w.heap[g]? = some (.cells #[(.slice A3 D.is.length c5), (.slice A7 D.kept.length c9), (.slice A11 D.l.length c13), (.int .i64 (D.fuse)), (.bool (D.gone))] 55 (0, 0))) (hH.blk 0 rfl) (fun _ _ hF hS => opLoadK hS rfl (hF.ev 0 rfl) (by kernel_rfl) rfl) rfl (fun _ _ => rfl) (kM [false, true, true, true, true, true, true] rfl rfl) (by decide) ?_
              refine pxV (v := (.int .i64 (at_))) (fun _ _ hF => opMove rfl (hF.ev 5 rfl)) rfl (fun _ _ => rfl) (kA rfl) (by decide) ?_
              refine pxV (v := (.int .i64 (((i) : Nat) : Int))) (fun _ _ hF => opMove rfl (hF.ev 3 rfl)) rfl (fun _ _ => rfl) (kM [true, true, true, false, true, true, true, true] rfl rfl) (by decide) ?_
              refine pxV (v := (.int .i64 (((at_.toNat + i) : Nat) : Int))) (fun _ _ hF => opAdd rfl (hF.ev 1 rfl) (hF.ev 0 rfl) (wI (by omega) (by omega) (by omega))) rfl (fun _ _ => rfl) (kM [false, false, true, true, true, true, true, true] rfl rfl) (by decide) ?_
              have hi32 : at_.toNat + i < D.is.length := by omega
              obtain ⟨g33, cap34, cur35, hv37, rfl, hB36⟩ := hO15.open (by omega)
              obtain ⟨rfl, rfl⟩ : A3 = some ⟨g33, 0, none⟩ ∧ c5 = cap34 := by injection hv37 with h1 h2 h3; exact ⟨h1, h3⟩
              have := hB36.le
              have hj40 : at_.toNat + i < D.is.length := by first | exact hi32 | (simp only [List.length_drop, List.length_take]; omega) | omega
              obtain ⟨x38, hx39⟩ := get_at D.is (at_.toNat + i) hj40
              refine pxV (v := (.pointer (some ⟨g33, 0 + (at_.toNat + i) * 64, none⟩))) (fun _ _ hF => opIndex (i := at_.toNat + i) (e := 58) (sz := 64) rfl (by kernel_rfl) (by kernel_rfl) (hF.ev 1 rfl) (hF.ev 0 rfl) rfl hi32) rfl (fun _ _ => rfl) (kM [false, false, true, true, true, true, true] rfl rfl) (by decide) ?_
              refine pxV (v := (.slice (some ⟨g33, 0 + (at_.toNat + i) * 64, none⟩) 64 64)) (fun _ _ hF => opSliceA (n := 64) (e := 5) (sz := 1) rfl (by kernel_rfl) (by kernel_rfl) (hF.ev 0 rfl)) rfl (fun _ _ => rfl) (kM [false, true, true, true, true, true] rfl rfl) (by decide) ?_
              refine pxE 4 hH rfl (fun _ hF => smAppT (C := cByte) (l := L) (m := (lst 64 x38)) (e := 5) (z := (.int .u8 0)) (by_ := 1) rfl (by kernel_rfl) (by kernel_rfl) rfl (ltb rfl) (hF.ev 1 rfl) hO (hF.ev 0 rfl) rfl (fun h => by cases h) (by unfold maxLen; omega) (by omega)) (vu_holds ((hB36.holdsL (hH.blk 1 rfl)) (at_.toNat + i) _ hx39)) rfl (fun _ _ => rfl) (kM [false, false, true, true, true, true] rfl rfl) (by decide) ?_
              clear hH
              rintro v43 E44 w ⟨hO45, _⟩ hH
              replace hH : HH w0 (bks E) [[bl g 55 #[(.slice (some ⟨g33, 0, none⟩) D.is.length c5), (.slice A7 D.kept.length c9), (.slice A11 D.l.length c13), (.int .i64 (D.fuse)), (.bool (D.gone))]], [bl g33 58 cur35], E10, E14, E44] w := hH
              replace hO45 : OwnT cByte 5 v43 (L ++ (lst 64 x38)) E44 := hO45
              obtain ⟨A41, c42, rfl⟩ := hO45.slice
              refine pxV (v := (.slice A41 ((L ++ (lst 64 x38)).length) c42)) (fun _ _ hF => opAssign rfl (hF.ev 0 rfl)) rfl (fun _ _ => rfl) (kM [false, true, true, true, true] rfl rfl) (by decide) ?_
              refine pxEnd ?_
              refine qxInN ?_
              refine qxThen ?_
              refine cxReg ?_
              refine pxV (v := (.int .i64 (((i + 1) : Nat) : Int))) (fun _ _ hF => opAdd rfl (hF.ev 1 rfl) rfl (wI (by omega) (by omega) (by omega))) rfl (fun _ _ => rfl) (kM [true, false, true, true, true] rfl rfl) (by decide) ?_
              refine pxV (v := (.int .i64 (((i + 1) : Nat) : Int))) (fun _ _ hF => opMove rfl (hF.ev 0 rfl)) rfl (fun _ _ => rfl) (kM [false, true, true, true, true] rfl rfl) (by decide) ?_
              refine pxEnd ?_
              exact qxRound (i + 1, A41, c42, (L ++ (lst 64 x38)), E44) ⟨hH, (by omega), hO45, (by rw [hL, unsec_take (readR_at hx39 (by omega))]), (by rw [List.length_append, hl, lst_len]; omega)⟩ (by omega) (slots_at [0, 2, 1, 3, 4] rfl)
            · refine cxExit ?_
              refine qxThenE ?_
              refine qxThenE ?_
              refine qxInE ?_
              refine qxThen ?_
              refine cxSeq ?_
              refine cxReg ?_
              refine pxV (v := (.slice Ao L.length co)) (fun _ _ hF => opMove rfl (hF.ev 3 rfl)) rfl (fun _ _ => rfl) (kM [false, false, false, false, false, false] rfl rfl) (by decide) ?_
              refine pxV (v := (.slice Ao L.length co)) (fun _ _ hF => opAssign rfl (hF.ev 0 rfl)) rfl (fun _ _ => rfl) (kM [false] rfl rfl) (by decide) ?_
              refine pxV (v := (.int .i64 0)) (fun _ _ hF => opAssign rfl rfl) rfl (fun _ _ => rfl) (kA rfl) (by decide) ?_
              refine pxEnd ?_
              refine qxThen ?_
              refine cxRet ?_
              refine qxRet2 1 0 rfl rfl rfl ?_
              have he : D.reads at_ n = (0, unsec ((D.is.take (at_.toNat + n.toNat)).drop at_.toNat)) := by unfold Dr.reads; rw [if_neg (not_not_intro hh), if_neg (by simp [hc27])]
              obtain ⟨E46, hE47, hD48⟩ : ∃ E, E = ([[bl g 55 #[(.slice A3 D.is.length c5), (.slice A7 D.kept.length c9), (.slice A11 D.l.length c13), (.int .i64 (D.fuse)), (.bool (D.gone))]], E6, E10, E14] : List Hl).flatten ∧ DrAt g D E := ⟨_, rfl, hD.ok, _, _, _, _, _, _, _, _, _, _, _, _, rfl, hO15, hO16, hO17⟩
              replace hH : HH w0 (bks E) [E46, Eo] w := hH.cast (by rw [hE47]; simp)
              have hS : L = unsec ((D.is.take (at_.toNat + n.toNat)).drop at_.toNat) := by
                rw [hL, List.take_of_length_le (by rw [List.length_drop, List.length_take]; omega)]
              exact ⟨_, _, rfl, ⟨_, _, _, by rw [he]; rfl, rfl, hD48, by rw [he, ← hS]; exact hO⟩, HH.out hH [true, true]⟩

def Dr.put (D : Dr) (p : Nat) (s : Sec) : Dr := { D with is := D.is.set p s, l := D.l ++ [(p, s)] }
theorem putR_ok {D : Dr} (h : D.Ok) {p : Nat} (hp : p < D.is.length) (s : Sec) : (D.put p s).Ok :=
  ⟨by show D.kept.length = (D.is.set p s).length; rw [List.length_set]; exact h.nn, by show (D.is.set p s).length ≤ _; rw [List.length_set]; exact h.sz, fun c hc => by
    show c.1 < (D.is.set p s).length
    rw [List.length_set]
    rcases List.mem_append.1 hc with hc | hc
    · exact h.l c hc
    · obtain rfl : c = (p, s) := by simpa using hc
      exact hp, h.min, h.max⟩
def Dr.write (D : Dr) (p : Nat) : List Sec → Bool × Dr
  | [] => (true, D)
  | s :: r => if D.change.1 = true then (D.change.2.put p s).write (p + 1) r else (false, D.change.2)
def Dr.writes (D : Dr) (at_ : Int) (b : List UInt8) : Nat × Dr :=
  if b.length % 64 ≠ 0 then (1, D) else if ¬ D.has at_ ((b.length / 64 : Nat) : Int) then (1, D) else if D.gone = true then (8, D) else (if (D.write at_.toNat (secs b)).1 = true then 0 else 8, (D.write at_.toNat (secs b)).2)
theorem change_is (D : Dr) : D.change.2.is = D.is := by unfold Dr.change; split; · rfl
                                                        · split <;> rfl
theorem change_l (D : Dr) : D.change.2.l = D.l := by unfold Dr.change; split; · rfl
                                                     · split <;> rfl
theorem writeR_step {D : Dr} {p i : Nat} {b : List UInt8} (hi : i < b.length / 64) (h : D.change.1 = true) : D.write (p + i) ((secs b).drop i) = (D.change.2.put (p + i) (cutF b (i * 64))).write (p + (i + 1)) ((secs b).drop (i + 1)) := by
  rw [drop_at (secs_get hi)]
  show (if _ then _ else _) = _
  rw [if_pos h]; rfl
theorem writeR_stop {D : Dr} {p i : Nat} {b : List UInt8} (hi : i < b.length / 64) (h : D.change.1 = false) : D.write (p + i) ((secs b).drop i) = (false, D.change.2) := by
  rw [drop_at (secs_get hi)]
  show (if _ then _ else _) = _
  rw [if_neg (by rw [h]; simp)]
theorem writeR_done {D : Dr} {p i : Nat} {b : List UInt8} (hi : ¬ i < b.length / 64) : D.write (p + i) ((secs b).drop i) = (true, D) := by
  rw [List.drop_eq_nil_of_le (by rw [secs_len]; omega)]; rfl
theorem cutF_drop (l : List UInt8) (k : Nat) : cutF (l.drop k) 0 = cutF l k := by
  funext j
  unfold cutF
  rw [List.getD_eq_getElem?_getD, List.getD_eq_getElem?_getD, List.getElem?_drop, Nat.zero_add]
theorem lst_cutF {l : List UInt8} {k n : Nat} (h : k + n ≤ l.length) : (l.drop k).take n = lst n (cutF l k) := by
  apply List.ext_getElem?
  intro j
  by_cases hj : j < n
  · rw [List.getElem?_take, if_pos hj, List.getElem?_drop, lst_get hj]
    unfold cutF
    rw [List.getD_eq_getElem?_getD, List.getElem?_eq_getElem (by omega)]; rfl
  · rw [List.getElem?_eq_none (by simp; omega), List.getElem?_eq_none (by rw [lst_len]; omega)]
/-- Bytes laid into a pair's second part. -/
theorem put_snd (p : Nat) (z f : Sec) : putL (cChg.enc (p, z)) 1 (flat cByte (lst 64 f)) = cChg.enc (p, f) := by
  rw [flat_lst]
  show putL ((cNat .i64).enc p ++ (row 64 z)) 1 (row 64 f).toList = (cNat .i64).enc p ++ row 64 f
  apply Array.ext_getElem?
  intro k
  have h1 : ((cNat .i64).enc p).size = 1 := rfl
  rw [putL_get, Array.length_toList, row_size, Array.size_append, h1, row_size]
  by_cases hk : 1 ≤ k ∧ k < 1 + 64
  · rw [if_pos (by omega), Array.getElem?_append_right (by omega), h1, Array.getElem?_toList]
  · rw [if_neg (by omega)]
    by_cases h0 : k < 1
    · rw [Array.getElem?_append_left (by omega), Array.getElem?_append_left (by omega)]
    · rw [Array.getElem?_eq_none (by rw [Array.size_append, h1, row_size]; omega), Array.getElem?_eq_none (by rw [Array.size_append, h1, row_size]; omega)]
theorem built_wrote (p : Nat) : Try.prog.built 63 [(0, .int .i64 (p : Int))] = some (cChg.enc (p, fun _ => 0)) := built_fst (A := cNat .i64) (B := cSec) 0 (fun _ => 0) (by kernel_rfl) (by kernel_rfl) rfl

set_option maxHeartbeats 8000000 in
theorem writeR_c (g : Nat) (D : Dr) (E : Hl) (hD : DrAt g D E) (at_ : Int) (b : List UInt8) (h1 : -9223372036854775808 ≤ at_) (h2 : at_ ≤ 9223372036854775807) (A : Option Addr) (c : Nat) (hA : Off A b.length (bks E)) (hb : b.length ≤ 140737488355328) (hU : D.l.length ≤ 900000) : Does Try.prog 22 #[(.pointer (some ⟨g, 0, none⟩)), (.int .i64 (at_)), (.slice A b.length c)] E (fun w => Vu cByte w A b.length c b) (fun v E' => v = .int .i64 ((D.writes at_ b).1 : Int) ∧ DrAt g (D.writes at_ b).2 E') := by
  refine does_of (fn := Try.f22) Try.func22 rfl Try.ntmps22 (Nat.le_of_ble_eq_true rfl) rfl ?_
  intro w0 hH hR
  have hok := hD.ok; have hsz := hok.sz
  refine cxSeq ?_
  refine cxReg ?_
  refine pxV (v := (.int .i64 0)) (fun _ _ hF => opAssign rfl rfl) rfl (fun _ _ => rfl) (kA rfl) (by decide) ?_
  refine pxEnd ?_
  refine qxThen ?_
  refine cxSeq ?_
  refine cxSeq ?_
  refine cxReg ?_
  refine pxV (v := (.slice A b.length c)) (fun _ _ hF => opMove rfl (hF.ev 3 rfl)) rfl (fun _ _ => rfl) (kM [false, true, true, true] rfl rfl) (by decide) ?_
  refine pxV (v := (.int .i64 (((b.length) : Nat) : Int))) (fun _ _ hF => opLen (e := 5) rfl (by kernel_rfl) (hF.ev 0 rfl)) rfl (fun _ _ => rfl) (kM [false, true, true, true] rfl rfl) (by decide) ?_
  refine pxV (v := (.int .i64 (((b.length % 64) : Nat) : Int))) (fun _ _ hF => opRem (z := ((b.length % 64 : Nat) : Int)) rfl (hF.ev 0 rfl) rfl (by omega) remN) rfl (fun _ _ => rfl) (kM [false, true, true, true] rfl rfl) (by decide) ?_
  refine pxV (v := (.bool (decide (b.length % 64 ≠ 0)))) (fun _ _ hF => opNeI rfl (hF.ev 0 rfl) rfl (dc (by omega))) rfl (fun _ _ => rfl) (kM [false, true, true, true] rfl rfl) (by decide) ?_
  refine pxV (v := (.bool (decide (b.length % 64 ≠ 0)))) (fun _ _ hF => opMove rfl (hF.ev 0 rfl)) rfl (fun _ _ => rfl) (kM [false, true, true, true] rfl rfl) (by decide) ?_
  refine pxSplitP 0 rfl (l1 := [(13, (.bool true)), (0, (.pointer (some ⟨g, 0, none⟩))), (1, (.int .i64 (at_))), (2, (.slice A b.length c))]) (l2 := [(13, (.bool false)), (0, (.pointer (some ⟨g, 0, none⟩))), (1, (.int .i64 (at_))), (2, (.slice A b.length c))]) rfl rfl (fun hg1 => ?_) (fun hg1 => ?_)
  · refine pxU rfl (gOff 0 rfl rfl rfl (by decide)) (kA rfl) (by decide) ?_
    refine pxU rfl (gOff 0 rfl rfl rfl (by decide)) (kA rfl) (by decide) ?_
    refine pxV (v := (.bool true)) (fun _ _ hF => opPickT rfl (hF.ev 0 rfl) rfl) rfl (fun _ _ => rfl) (kM [false, true, true, true] rfl rfl) (by decide) ?_
    refine pxV (v := (.bool true)) (fun _ _ hF => opMove rfl (hF.ev 0 rfl)) rfl (fun _ _ => rfl) (kM [false, true, true, true] rfl rfl) (by decide) ?_
    refine pxU rfl (gOff 0 rfl rfl rfl (by decide)) (kA rfl) (by decide) ?_
    refine pxU rfl (gOff 0 rfl rfl rfl (by decide)) (kA rfl) (by decide) ?_
    refine pxU rfl (gOff 0 rfl rfl rfl (by decide)) (kA rfl) (by decide) ?_
    refine pxU rfl (gOff 0 rfl rfl rfl (by decide)) (kA rfl) (by decide) ?_
    refine pxU rfl (gOff 0 rfl rfl rfl (by decide)) (kA rfl) (by decide) ?_
    refine pxU rfl (gOff 0 rfl rfl rfl (by decide)) (kA rfl) (by decide) ?_
    refine pxU rfl (gOff 0 rfl rfl rfl (by decide)) (kA rfl) (by decide) ?_
    refine pxV (v := (.bool true)) (fun _ _ hF => opPickT rfl (hF.ev 0 rfl) rfl) rfl (fun _ _ => rfl) (kM [false, true, true, true] rfl rfl) (by decide) ?_
    refine pxV (v := (.bool true)) (fun _ _ hF => opMove rfl (hF.ev 0 rfl)) rfl (fun _ _ => rfl) (kM [false, true, true, true] rfl rfl) (by decide) ?_
    refine pxU rfl (gOff 0 rfl rfl rfl (by decide)) (kA rfl) (by decide) ?_
    refine pxU rfl (gOff 0 rfl rfl rfl (by decide)) (kA rfl) (by decide) ?_
    refine pxU rfl (gOff 0 rfl rfl rfl (by decide)) (kA rfl) (by decide) ?_
    refine pxU rfl (gOff 0 rfl rfl rfl (by decide)) (kA rfl) (by decide) ?_
    refine pxU rfl (gOff 0 rfl rfl rfl (by decide)) (kA rfl) (by decide) ?_
    refine pxU rfl (gOff 0 rfl rfl rfl (by decide)) (kA rfl) (by decide) ?_
    refine pxU rfl (gOff 0 rfl rfl rfl (by decide)) (kA rfl) (by decide) ?_
    refine pxU rfl (gOff 0 rfl rfl rfl (by decide)) (kA rfl) (by decide) ?_
    refine pxU rfl (gOff 0 rfl rfl rfl (by decide)) (kA rfl) (by decide) ?_
    refine pxU rfl (gOff 0 rfl rfl rfl (by decide)) (kA rfl) (by decide) ?_
    refine pxU rfl (gOff 0 rfl rfl rfl (by decide)) (kA rfl) (by decide) ?_
    refine pxV (v := (.bool true)) (fun _ _ hF => opPickT rfl (hF.ev 0 rfl) rfl) rfl (fun _ _ => rfl) (kM [false, true, true, true] rfl rfl) (by decide) ?_
    refine pxEnd ?_
    refine qxThen ?_
    refine cxT 0 rfl rfl ?_
    refine cxSeq ?_
    refine cxReg ?_
    refine pxV (v := (.int .i64 1)) (fun _ _ hF => opAssign rfl rfl) rfl (fun _ _ => rfl) (kM [false, false, false, false] rfl rfl) (by decide) ?_
    refine pxEnd ?_
    refine qxThen ?_
    refine cxRet ?_
    refine qxThenR ?_
    refine qxRet1 0 rfl rfl ?_
    have hh : b.length % 64 ≠ 0 ∨ ¬ D.has at_ ((b.length / 64 : Nat) : Int) := by unfold Dr.has; omega
    have he : D.writes at_ b = (1, D) := by
      unfold Dr.writes
      by_cases h64 : b.length % 64 ≠ 0
      · rw [if_pos h64]
      · rw [if_neg h64, if_pos (hh.resolve_left h64)]
    exact ⟨_, _, rfl, ⟨by rw [he]; rfl, by rw [he]; exact hD⟩, hH.out1 [true] rfl⟩
  · refine pxV (v := (.int .i64 (at_))) (fun _ _ hF => opMove rfl (hF.ev 2 rfl)) rfl (gOn 0 rfl rfl rfl (by decide)) (kA rfl) (by decide) ?_
    refine pxV (v := (.bool (decide ((at_) < 0)))) (fun _ _ hF => opLss rfl (hF.ev 0 rfl) rfl rfl) rfl (gOn 1 rfl rfl rfl (by decide)) (kM [false, true, true, true, true] rfl rfl) (by decide) ?_
    refine pxV (v := (.bool (decide ((at_) < 0)))) (fun _ _ hF => opPickF rfl (hF.ev 1 rfl) (hF.ev 0 rfl)) rfl (fun _ _ => rfl) (kM [false, false, true, true, true] rfl rfl) (by decide) ?_
    refine pxV (v := (.bool (decide ((at_) < 0)))) (fun _ _ hF => opMove rfl (hF.ev 0 rfl)) rfl (fun _ _ => rfl) (kM [false, true, true, true] rfl rfl) (by decide) ?_
    refine pxSplitP 0 rfl (l1 := [(17, (.bool true)), (0, (.pointer (some ⟨g, 0, none⟩))), (1, (.int .i64 (at_))), (2, (.slice A b.length c))]) (l2 := [(17, (.bool false)), (0, (.pointer (some ⟨g, 0, none⟩))), (1, (.int .i64 (at_))), (2, (.slice A b.length c))]) rfl rfl (fun hg2 => ?_) (fun hg2 => ?_)
    · refine pxU rfl (gOff 0 rfl rfl rfl (by decide)) (kA rfl) (by decide) ?_
      refine pxU rfl (gOff 0 rfl rfl rfl (by decide)) (kA rfl) (by decide) ?_
      refine pxU rfl (gOff 0 rfl rfl rfl (by decide)) (kA rfl) (by decide) ?_
      refine pxU rfl (gOff 0 rfl rfl rfl (by decide)) (kA rfl) (by decide) ?_
      refine pxU rfl (gOff 0 rfl rfl rfl (by decide)) (kA rfl) (by decide) ?_
      refine pxU rfl (gOff 0 rfl rfl rfl (by decide)) (kA rfl) (by decide) ?_
      refine pxU rfl (gOff 0 rfl rfl rfl (by decide)) (kA rfl) (by decide) ?_
      refine pxV (v := (.bool true)) (fun _ _ hF => opPickT rfl (hF.ev 0 rfl) rfl) rfl (fun _ _ => rfl) (kM [false, true, true, true] rfl rfl) (by decide) ?_
      refine pxV (v := (.bool true)) (fun _ _ hF => opMove rfl (hF.ev 0 rfl)) rfl (fun _ _ => rfl) (kM [false, true, true, true] rfl rfl) (by decide) ?_
      refine pxU rfl (gOff 0 rfl rfl rfl (by decide)) (kA rfl) (by decide) ?_
      refine pxU rfl (gOff 0 rfl rfl rfl (by decide)) (kA rfl) (by decide) ?_
      refine pxU rfl (gOff 0 rfl rfl rfl (by decide)) (kA rfl) (by decide) ?_
      refine pxU rfl (gOff 0 rfl rfl rfl (by decide)) (kA rfl) (by decide) ?_
      refine pxU rfl (gOff 0 rfl rfl rfl (by decide)) (kA rfl) (by decide) ?_
      refine pxU rfl (gOff 0 rfl rfl rfl (by decide)) (kA rfl) (by decide) ?_
      refine pxU rfl (gOff 0 rfl rfl rfl (by decide)) (kA rfl) (by decide) ?_
      refine pxU rfl (gOff 0 rfl rfl rfl (by decide)) (kA rfl) (by decide) ?_
      refine pxU rfl (gOff 0 rfl rfl rfl (by decide)) (kA rfl) (by decide) ?_
      refine pxU rfl (gOff 0 rfl rfl rfl (by decide)) (kA rfl) (by decide) ?_
      refine pxU rfl (gOff 0 rfl rfl rfl (by decide)) (kA rfl) (by decide) ?_
      refine pxV (v := (.bool true)) (fun _ _ hF => opPickT rfl (hF.ev 0 rfl) rfl) rfl (fun _ _ => rfl) (kM [false, true, true, true] rfl rfl) (by decide) ?_
      refine pxEnd ?_
      refine qxThen ?_
      refine cxT 0 rfl rfl ?_
      refine cxSeq ?_
      refine cxReg ?_
      refine pxV (v := (.int .i64 1)) (fun _ _ hF => opAssign rfl rfl) rfl (fun _ _ => rfl) (kM [false, false, false, false] rfl rfl) (by decide) ?_
      refine pxEnd ?_
      refine qxThen ?_
      refine cxRet ?_
      refine qxThenR ?_
      refine qxRet1 0 rfl rfl ?_
      have hh : b.length % 64 ≠ 0 ∨ ¬ D.has at_ ((b.length / 64 : Nat) : Int) := by unfold Dr.has; omega
      have he : D.writes at_ b = (1, D) := by
        unfold Dr.writes
        by_cases h64 : b.length % 64 ≠ 0
        · rw [if_pos h64]
        · rw [if_neg h64, if_pos (hh.resolve_left h64)]
      exact ⟨_, _, rfl, ⟨by rw [he]; rfl, by rw [he]; exact hD⟩, hH.out1 [true] rfl⟩
    · refine pxV (v := (.int .i64 (at_))) (fun _ _ hF => opMove rfl (hF.ev 2 rfl)) rfl (gOn 0 rfl rfl rfl (by decide)) (kA rfl) (by decide) ?_
      refine pxV (v := (.pointer (some ⟨g, 0, none⟩))) (fun _ _ hF => opMove rfl (hF.ev 2 rfl)) rfl (gOn 1 rfl rfl rfl (by decide)) (kA rfl) (by decide) ?_
      refine pxV (v := (.pointer (some ⟨g, 0, none⟩))) (fun _ _ hF => opNilCheck rfl (hF.ev 0 rfl)) rfl (gOn 2 rfl rfl rfl (by decide)) (kM [false, true, true, true, true, true] rfl rfl) (by decide) ?_
      refine pxV (v := (.pointer (some ⟨g, 0, none⟩))) (fun _ _ hF => opField (off := 0) rfl (hF.ev 0 rfl) (by kernel_rfl)) rfl (gOn 2 rfl rfl rfl (by decide)) (kM [false, true, true, true, true, true] rfl rfl) (by decide) ?_
      obtain ⟨A3, n4, c5, E6, A7, n8, c9, E10, A11, n12, c13, E14, hE18, hO15, hO16, hO17⟩ := hD.at'
      obtain rfl : n4 = D.is.length := hO15.len
      obtain rfl : n8 = D.kept.length := hO16.len
      obtain rfl : n12 = D.l.length := hO17.len
      replace hH : HH w0 (bks E) [[bl g 55 #[(.slice A3 D.is.length c5), (.slice A7 D.kept.length c9), (.slice A11 D.l.length c13), (.int .i64 (D.fuse)), (.bool (D.gone))]], E6, E10, E14] w0 := hH.cast (by rw [hE18]; simp)
      refine pxS (v := (.slice A3 D.is.length c5)) (fun w => w.heap[g]? = some (.cells #[(.slice A3 D.is.length c5), (.slice A7 D.kept.length c9), (.slice A11 D.l.length c13), (.int .i64 (D.fuse)), (.bool (D.gone))] 55 (0, 0))) (hH.blk 0 rfl) (fun _ _ hF hS => opLoadK hS rfl (hF.ev 0 rfl) (by kernel_rfl) rfl) rfl (gOn 2 rfl rfl rfl (by decide)) (kM [false, true, true, true, true, true] rfl rfl) (by decide) ?_
      refine pxV (v := (.int .i64 (((D.is.length) : Nat) : Int))) (fun _ _ hF => opLen (e := 58) rfl (by kernel_rfl) (hF.ev 0 rfl)) rfl (gOn 2 rfl rfl rfl (by decide)) (kM [false, true, true, true, true, true] rfl rfl) (by decide) ?_
      refine pxV (v := (.bool (decide ((at_) > (((D.is.length) : Nat) : Int))))) (fun _ _ hF => opGtr rfl (hF.ev 1 rfl) (hF.ev 0 rfl) rfl) rfl (gOn 2 rfl rfl rfl (by decide)) (kM [false, false, true, true, true, true] rfl rfl) (by decide) ?_
      refine pxV (v := (.bool (decide ((at_) > (((D.is.length) : Nat) : Int))))) (fun _ _ hF => opPickF rfl (hF.ev 1 rfl) (hF.ev 0 rfl)) rfl (fun _ _ => rfl) (kM [false, false, true, true, true] rfl rfl) (by decide) ?_
      refine pxV (v := (.bool (decide ((at_) > (((D.is.length) : Nat) : Int))))) (fun _ _ hF => opMove rfl (hF.ev 0 rfl)) rfl (fun _ _ => rfl) (kM [false, true, true, true] rfl rfl) (by decide) ?_
      refine pxSplitP 0 rfl (l1 := [(26, (.bool true)), (0, (.pointer (some ⟨g, 0, none⟩))), (1, (.int .i64 (at_))), (2, (.slice A b.length c))]) (l2 := [(26, (.bool false)), (0, (.pointer (some ⟨g, 0, none⟩))), (1, (.int .i64 (at_))), (2, (.slice A b.length c))]) rfl rfl (fun hg19 => ?_) (fun hg19 => ?_)
      · refine pxU rfl (gOff 0 rfl rfl rfl (by decide)) (kA rfl) (by decide) ?_
        refine pxU rfl (gOff 0 rfl rfl rfl (by decide)) (kA rfl) (by decide) ?_
        refine pxU rfl (gOff 0 rfl rfl rfl (by decide)) (kA rfl) (by decide) ?_
        refine pxU rfl (gOff 0 rfl rfl rfl (by decide)) (kA rfl) (by decide) ?_
        refine pxU rfl (gOff 0 rfl rfl rfl (by decide)) (kA rfl) (by decide) ?_
        refine pxU rfl (gOff 0 rfl rfl rfl (by decide)) (kA rfl) (by decide) ?_
        refine pxU rfl (gOff 0 rfl rfl rfl (by decide)) (kA rfl) (by decide) ?_
        refine pxU rfl (gOff 0 rfl rfl rfl (by decide)) (kA rfl) (by decide) ?_
        refine pxU rfl (gOff 0 rfl rfl rfl (by decide)) (kA rfl) (by decide) ?_
        refine pxU rfl (gOff 0 rfl rfl rfl (by decide)) (kA rfl) (by decide) ?_
        refine pxU rfl (gOff 0 rfl rfl rfl (by decide)) (kA rfl) (by decide) ?_
        refine pxV (v := (.bool true)) (fun _ _ hF => opPickT rfl (hF.ev 0 rfl) rfl) rfl (fun _ _ => rfl) (kM [false, true, true, true] rfl rfl) (by decide) ?_
        refine pxEnd ?_
        refine qxThen ?_
        refine cxT 0 rfl rfl ?_
        refine cxSeq ?_
        refine cxReg ?_
        refine pxV (v := (.int .i64 1)) (fun _ _ hF => opAssign rfl rfl) rfl (fun _ _ => rfl) (kM [false, false, false, false] rfl rfl) (by decide) ?_
        refine pxEnd ?_
        refine qxThen ?_
        refine cxRet ?_
        refine qxThenR ?_
        refine qxRet1 0 rfl rfl ?_
        obtain ⟨E20, hE21, hD22⟩ : ∃ E, E = ([[bl g 55 #[(.slice A3 D.is.length c5), (.slice A7 D.kept.length c9), (.slice A11 D.l.length c13), (.int .i64 (D.fuse)), (.bool (D.gone))]], E6, E10, E14] : List Hl).flatten ∧ DrAt g D E := ⟨_, rfl, hD.ok, _, _, _, _, _, _, _, _, _, _, _, _, rfl, hO15, hO16, hO17⟩
        replace hH : HH w0 (bks E) [E20] w0 := hH.cast (by rw [hE21]; simp)
        have hh : b.length % 64 ≠ 0 ∨ ¬ D.has at_ ((b.length / 64 : Nat) : Int) := by unfold Dr.has; omega
        have he : D.writes at_ b = (1, D) := by
          unfold Dr.writes
          by_cases h64 : b.length % 64 ≠ 0
          · rw [if_pos h64]
          · rw [if_neg h64, if_pos (hh.resolve_left h64)]
        exact ⟨_, _, rfl, ⟨by rw [he]; rfl, by rw [he]; exact hD22⟩, hH.out1 [true] rfl⟩
      · refine pxV (v := (.slice A b.length c)) (fun _ _ hF => opMove rfl (hF.ev 3 rfl)) rfl (gOn 0 rfl rfl rfl (by decide)) (kA rfl) (by decide) ?_
        refine pxV (v := (.int .i64 (((b.length) : Nat) : Int))) (fun _ _ hF => opLen (e := 5) rfl (by kernel_rfl) (hF.ev 0 rfl)) rfl (gOn 1 rfl rfl rfl (by decide)) (kM [false, true, true, true, true] rfl rfl) (by decide) ?_
        refine pxV (v := (.int .i64 (((b.length / 64) : Nat) : Int))) (fun _ _ hF => opQuo (z := ((b.length / 64 : Nat) : Int)) rfl (hF.ev 0 rfl) rfl (by omega) (wI quoN (by omega) (by omega))) rfl (gOn 1 rfl rfl rfl (by decide)) (kM [false, true, true, true, true] rfl rfl) (by decide) ?_
        refine pxV (v := (.pointer (some ⟨g, 0, none⟩))) (fun _ _ hF => opMove rfl (hF.ev 2 rfl)) rfl (gOn 1 rfl rfl rfl (by decide)) (kA rfl) (by decide) ?_
        refine pxV (v := (.pointer (some ⟨g, 0, none⟩))) (fun _ _ hF => opNilCheck rfl (hF.ev 0 rfl)) rfl (gOn 2 rfl rfl rfl (by decide)) (kM [false, true, true, true, true, true] rfl rfl) (by decide) ?_
        refine pxV (v := (.pointer (some ⟨g, 0, none⟩))) (fun _ _ hF => opField (off := 0) rfl (hF.ev 0 rfl) (by kernel_rfl)) rfl (gOn 2 rfl rfl rfl (by decide)) (kM [false, true, true, true, true, true] rfl rfl) (by decide) ?_
        refine pxS (v := (.slice A3 D.is.length c5)) (fun w => w.heap[g]? = some (.cells #[(.slice A3 D.is.length c5), (.slice A7 D.kept.length c9), (.slice A11 D.l.length c13), (.int .i64 (D.fuse)), (.bool (D.gone))] 55 (0, 0))) (hH.blk 0 rfl) (fun _ _ hF hS => opLoadK hS rfl (hF.ev 0 rfl) (by kernel_rfl) rfl) rfl (gOn 2 rfl rfl rfl (by decide)) (kM [false, true, true, true, true, true] rfl rfl) (by decide) ?_
        refine pxV (v := (.int .i64 (((D.is.length) : Nat) : Int))) (fun _ _ hF => opLen (e := 58) rfl (by kernel_rfl) (hF.ev 0 rfl)) rfl (gOn 2 rfl rfl rfl (by decide)) (kM [false, true, true, true, true, true] rfl rfl) (by decide) ?_
        refine pxV (v := (.int .i64 (at_))) (fun _ _ hF => opMove rfl (hF.ev 4 rfl)) rfl (gOn 2 rfl rfl rfl (by decide)) (kA rfl) (by decide) ?_
        refine pxV (v := (.int .i64 ((((D.is.length) : Nat) : Int) - (at_)))) (fun _ _ hF => opSub rfl (hF.ev 1 rfl) (hF.ev 0 rfl) (wI rfl (by omega) (by omega))) rfl (gOn 3 rfl rfl rfl (by decide)) (kM [false, false, true, true, true, true, true] rfl rfl) (by decide) ?_
        refine pxV (v := (.bool (decide ((((b.length / 64) : Nat) : Int) > ((((D.is.length) : Nat) : Int) - (at_)))))) (fun _ _ hF => opGtr rfl (hF.ev 1 rfl) (hF.ev 0 rfl) rfl) rfl (gOn 2 rfl rfl rfl (by decide)) (kM [false, false, true, true, true, true] rfl rfl) (by decide) ?_
        refine pxV (v := (.bool (decide ((((b.length / 64) : Nat) : Int) > ((((D.is.length) : Nat) : Int) - (at_)))))) (fun _ _ hF => opPickF rfl (hF.ev 1 rfl) (hF.ev 0 rfl)) rfl (fun _ _ => rfl) (kM [false, false, true, true, true] rfl rfl) (by decide) ?_
        refine pxEnd ?_
        refine qxThen ?_
        refine cxP 0 rfl rfl (fun hc23 => ?_) (fun hc23 => ?_)
        · refine cxSeq ?_
          refine cxReg ?_
          refine pxV (v := (.int .i64 1)) (fun _ _ hF => opAssign rfl rfl) rfl (fun _ _ => rfl) (kM [false, false, false, false] rfl rfl) (by decide) ?_
          refine pxEnd ?_
          refine qxThen ?_
          refine cxRet ?_
          refine qxThenR ?_
          refine qxRet1 0 rfl rfl ?_
          obtain ⟨E24, hE25, hD26⟩ : ∃ E, E = ([[bl g 55 #[(.slice A3 D.is.length c5), (.slice A7 D.kept.length c9), (.slice A11 D.l.length c13), (.int .i64 (D.fuse)), (.bool (D.gone))]], E6, E10, E14] : List Hl).flatten ∧ DrAt g D E := ⟨_, rfl, hD.ok, _, _, _, _, _, _, _, _, _, _, _, _, rfl, hO15, hO16, hO17⟩
          replace hH : HH w0 (bks E) [E24] w0 := hH.cast (by rw [hE25]; simp)
          have hh : b.length % 64 ≠ 0 ∨ ¬ D.has at_ ((b.length / 64 : Nat) : Int) := by unfold Dr.has; omega
          have he : D.writes at_ b = (1, D) := by
            unfold Dr.writes
            by_cases h64 : b.length % 64 ≠ 0
            · rw [if_pos h64]
            · rw [if_neg h64, if_pos (hh.resolve_left h64)]
          exact ⟨_, _, rfl, ⟨by rw [he]; rfl, by rw [he]; exact hD26⟩, hH.out1 [true] rfl⟩
        · refine cxSkip ?_
          refine qxThen ?_
          refine cxSeq ?_
          refine cxSeq ?_
          refine cxReg ?_
          refine pxV (v := (.pointer (some ⟨g, 0, none⟩))) (fun _ _ hF => opMove rfl (hF.ev 1 rfl)) rfl (fun _ _ => rfl) (kM [false, true, true, true] rfl rfl) (by decide) ?_
          refine pxV (v := (.pointer (some ⟨g, 0, none⟩))) (fun _ _ hF => opNilCheck rfl (hF.ev 0 rfl)) rfl (fun _ _ => rfl) (kM [false, true, true, true] rfl rfl) (by decide) ?_
          refine pxV (v := (.pointer (some ⟨g, 4, none⟩))) (fun _ _ hF => opField (off := 4) rfl (hF.ev 0 rfl) (by kernel_rfl)) rfl (fun _ _ => rfl) (kM [false, true, true, true] rfl rfl) (by decide) ?_
          refine pxS (v := (.bool (D.gone))) (fun w => w.heap[g]? = some (.cells #[(.slice A3 D.is.length c5), (.slice A7 D.kept.length c9), (.slice A11 D.l.length c13), (.int .i64 (D.fuse)), (.bool (D.gone))] 55 (0, 0))) (hH.blk 0 rfl) (fun _ _ hF hS => opLoadK hS rfl (hF.ev 0 rfl) (by kernel_rfl) rfl) rfl (fun _ _ => rfl) (kM [false, true, true, true] rfl rfl) (by decide) ?_
          refine pxEnd ?_
          refine qxThen ?_
          refine cxB 0 rfl rfl (fun hc27 => ?_) (fun hc27 => ?_)
          · refine cxSeq ?_
            refine cxReg ?_
            refine pxV (v := (.int .i64 8)) (fun _ _ hF => opAssign rfl rfl) rfl (fun _ _ => rfl) (kM [false, false, false, false] rfl rfl) (by decide) ?_
            refine pxEnd ?_
            refine qxThen ?_
            refine cxRet ?_
            refine qxThenR ?_
            refine qxRet1 0 rfl rfl ?_
            obtain ⟨E28, hE29, hD30⟩ : ∃ E, E = ([[bl g 55 #[(.slice A3 D.is.length c5), (.slice A7 D.kept.length c9), (.slice A11 D.l.length c13), (.int .i64 (D.fuse)), (.bool (D.gone))]], E6, E10, E14] : List Hl).flatten ∧ DrAt g D E := ⟨_, rfl, hD.ok, _, _, _, _, _, _, _, _, _, _, _, _, rfl, hO15, hO16, hO17⟩
            replace hH : HH w0 (bks E) [E28] w0 := hH.cast (by rw [hE29]; simp)
            have hh : D.has at_ ((b.length / 64 : Nat) : Int) := by unfold Dr.has; omega
            have he : D.writes at_ b = (8, D) := by unfold Dr.writes; rw [if_neg (by omega), if_neg (not_not_intro hh), if_pos hc27]
            exact ⟨_, _, rfl, ⟨by rw [he]; rfl, by rw [he]; exact hD30⟩, hH.out1 [true] rfl⟩
          · have hh : D.has at_ ((b.length / 64 : Nat) : Int) := by unfold Dr.has; omega
            refine cxSkip ?_
            refine qxThen ?_
            refine cxSeq ?_
            refine cxSeq ?_
            refine cxReg ?_
            refine pxV (v := (.slice A b.length c)) (fun _ _ hF => opMove rfl (hF.ev 3 rfl)) rfl (fun _ _ => rfl) (kM [false, true, true, true] rfl rfl) (by decide) ?_
            refine pxV (v := (.int .i64 (((b.length) : Nat) : Int))) (fun _ _ hF => opLen (e := 5) rfl (by kernel_rfl) (hF.ev 0 rfl)) rfl (fun _ _ => rfl) (kM [false, true, true, true] rfl rfl) (by decide) ?_
            refine pxV (v := (.int .i64 (((b.length / 64) : Nat) : Int))) (fun _ _ hF => opQuo (z := ((b.length / 64 : Nat) : Int)) rfl (hF.ev 0 rfl) rfl (by omega) (wI quoN (by omega) (by omega))) rfl (fun _ _ => rfl) (kM [false, true, true, true] rfl rfl) (by decide) ?_
            refine pxV (v := (.int .i64 0)) (fun _ _ hF => opMove rfl rfl) rfl (fun _ _ => rfl) (kA rfl) (by decide) ?_
            refine pxEnd ?_
            refine qxThen ?_
            refine cxBlock ?_
            obtain ⟨E31, hE32, hD33⟩ : ∃ E, E = ([[bl g 55 #[(.slice A3 D.is.length c5), (.slice A7 D.kept.length c9), (.slice A11 D.l.length c13), (.int .i64 (D.fuse)), (.bool (D.gone))]], E6, E10, E14] : List Hl).flatten ∧ DrAt g D E := ⟨_, rfl, hD.ok, _, _, _, _, _, _, _, _, _, _, _, _, rfl, hO15, hO16, hO17⟩
            replace hH : HH w0 (bks E) [E31] w0 := hH.cast (by rw [hE32]; simp)
            refine cxLoop (σ := Nat × Dr × Hl) (fun x => [(46, (.int .i64 (((x.1) : Nat) : Int))), (45, (.int .i64 (((b.length / 64) : Nat) : Int))), (2, (.slice A b.length c)), (1, (.int .i64 (at_))), (0, (.pointer (some ⟨g, 0, none⟩)))]) (fun x w => HH w0 (bks E) [x.2.2] w ∧ (x.1 ≤ b.length / 64) ∧ (DrAt g x.2.1 x.2.2) ∧ (D.write at_.toNat (secs b) = x.2.1.write (at_.toNat + x.1) ((secs b).drop x.1)) ∧ (x.2.1.is.length = D.is.length) ∧ (x.2.1.l.length ≤ D.l.length + x.1)) (fun x => b.length / 64 - x.1) (0, D, E31) ⟨hH, (Nat.zero_le _), hD33, rfl, rfl, (Nat.le_refl _)⟩ (slots_at [0, 1, 4, 3, 2] rfl) ?_
            clear hH
            rintro ⟨i, D', E'⟩ w ⟨hH, hi, hD', hw, hl, hu⟩
            change CX _ _ _ _ [(46, (.int .i64 (((i) : Nat) : Int))), (45, (.int .i64 (((b.length / 64) : Nat) : Int))), (2, (.slice A b.length c)), (1, (.int .i64 (at_))), (0, (.pointer (some ⟨g, 0, none⟩)))] _
            replace hH : HH w0 (bks E) [E'] w := hH
            replace hi : i ≤ b.length / 64 := hi
            replace hD' : DrAt g D' E' := hD'
            replace hw : D.write at_.toNat (secs b) = D'.write (at_.toNat + i) ((secs b).drop i) := hw
            replace hl : D'.is.length = D.is.length := hl
            replace hu : D'.l.length ≤ D.l.length + i := hu
            refine cxSeq ?_
            refine cxReg ?_
            refine pxV (v := (.bool (decide (i < b.length / 64)))) (fun _ _ hF => opLss rfl (hF.ev 0 rfl) (hF.ev 1 rfl) (dc (by omega))) rfl (fun _ _ => rfl) (kA rfl) (by decide) ?_
            refine pxEnd ?_
            refine qxThen ?_
            refine cxSeq ?_
            refine cxP 0 rfl rfl (fun hc34 => ?_) (fun hc34 => ?_)
            · refine cxSkip ?_
              refine qxThen ?_
              refine cxSeq ?_
              refine cxBlock ?_
              refine cxSeq ?_
              refine cxReg ?_
              refine pxV (v := (.int .i64 (((i) : Nat) : Int))) (fun _ _ hF => opMove rfl (hF.ev 1 rfl)) rfl (fun _ _ => rfl) (kM [false, true, true, true, true, true] rfl rfl) (by decide) ?_
              refine pxV (v := (.int .i64 (((i) : Nat) : Int))) (fun _ _ hF => opAssign rfl (hF.ev 0 rfl)) rfl (fun _ _ => rfl) (kM [false, true, true, true, true, true] rfl rfl) (by decide) ?_
              refine pxEnd ?_
              refine qxThen ?_
              refine cxSeq ?_
              refine cxSeq ?_
              refine cxReg ?_
              refine pxV (v := (.pointer (some ⟨g, 0, none⟩))) (fun _ _ hF => opMove rfl (hF.ev 5 rfl)) rfl (fun _ _ => rfl) (kA rfl) (by decide) ?_
              refine pxE 0 hH rfl (fun _ hF => Does.small (change_c g D' E' hD' ) (fun w => opCall rfl Try.func30 rfl rfl (Evs.cons (hF.ev 0 rfl) Evs.nil) w)) trivial rfl (fun _ _ => rfl) (kM [false, true, true, true, true, true, true] rfl rfl) (by decide) ?_
              clear hH
              rintro _ E35 w ⟨rfl, hD36⟩ hH
              replace hH : HH w0 (bks E) [E35] w := hH
              refine pxV (v := (.bool (!(D'.change.1)))) (fun _ _ hF => opNot rfl (hF.ev 0 rfl) rfl) rfl (fun _ _ => rfl) (kM [false, true, true, true, true, true, true] rfl rfl) (by decide) ?_
              refine pxEnd ?_
              refine qxThen ?_
              refine cxB 0 rfl rfl (fun hc37 => ?_) (fun hc37 => ?_)
              · replace hc37 : D'.change.1 = false := by simpa using hc37
                refine cxSeq ?_
                refine cxReg ?_
                refine pxV (v := (.int .i64 8)) (fun _ _ hF => opAssign rfl rfl) rfl (fun _ _ => rfl) (kM [false, false, false, false, false, false, false] rfl rfl) (by decide) ?_
                refine pxEnd ?_
                refine qxThen ?_
                refine cxRet ?_
                refine qxThenR ?_
                refine qxInR ?_
                refine qxThenR ?_
                refine qxThenR ?_
                refine qxInR ?_
                refine qxThenR ?_
                refine qxRet1 0 rfl rfl ?_
                have he : D.writes at_ b = (8, D'.change.2) := by unfold Dr.writes; rw [if_neg (by omega), if_neg (not_not_intro hh), if_neg (by simp [hc27]), hw, writeR_stop (by omega) hc37]; rfl
                exact ⟨_, _, rfl, ⟨by rw [he]; rfl, by rw [he]; exact hD36⟩, hH.out1 [true] rfl⟩
              · replace hc37 : D'.change.1 = true := by simpa using hc37
                have hci : D'.change.2.is.length = D.is.length := by rw [change_is]; exact hl
                have hcl : D'.change.2.l.length ≤ D.l.length + i := by rw [change_l]; exact hu
                refine cxSkip ?_
                refine qxThen ?_
                refine cxSeq ?_
                refine cxReg ?_
                refine pxV (v := (.int .i64 (at_))) (fun _ _ hF => opMove rfl (hF.ev 5 rfl)) rfl (fun _ _ => rfl) (kM [false, true, true, true, true, true, true] rfl rfl) (by decide) ?_
                refine pxV (v := (.int .i64 (((i) : Nat) : Int))) (fun _ _ hF => opMove rfl (hF.ev 1 rfl)) rfl (fun _ _ => rfl) (kA rfl) (by decide) ?_
                refine pxV (v := (.int .i64 (((at_.toNat + i) : Nat) : Int))) (fun _ _ hF => opAdd rfl (hF.ev 1 rfl) (hF.ev 0 rfl) (wI (by omega) (by omega) (by omega))) rfl (fun _ _ => rfl) (kM [false, false, true, true, true, true, true, true] rfl rfl) (by decide) ?_
                refine pxV (v := (cChg.val (at_.toNat + i, fun _ => 0))) (fun _ _ hF => opBuildP (cells := cChg.enc (at_.toNat + i, fun _ => 0)) rfl (EvP.cons (hF.ev 0 rfl) EvP.nil) (built_wrote (at_.toNat + i)) _) rfl (fun _ _ => rfl) (kM [false, true, true, true, true, true, true] rfl rfl) (by decide) ?_
                refine pxM hH (fun _ hF => smAlloc (cs := cChg.enc (0, fun _ => 0)) (z := (cChg.val (0, fun _ => 0))) rfl (by kernel_rfl) rfl) trivial rfl (fun _ _ => rfl) (kA rfl) (by decide) ?_
                clear hH
                rintro _ _ w ⟨g38, rfl, rfl⟩ hH
                replace hH : HH w0 (bks E) [E35, [bl g38 63 (cChg.enc (0, fun _ => 0))]] w := hH
                refine pxE0 1 hH rfl (fun _ hF => smStoreT (C := cChg) (z := (at_.toNat + i, fun _ => 0)) rfl (hF.ev 0 rfl) (hF.ev 1 rfl) rfl (by kernel_rfl) (by rw [Cod.size]; exact Nat.le_refl _) (put_whole cChg _ _)) trivial rfl (fun _ _ => rfl) ?_
                clear hH
                rintro _ _ w rfl hH
                replace hH : HH w0 (bks E) [E35, [bl g38 63 (cChg.enc (at_.toNat + i, fun _ => 0))]] w := hH
                refine pxEnd ?_
                refine qxThen ?_
                refine cxSeq ?_
                refine cxRegX mixedOrders (by kernel_rfl) ?_
                replace hH := hH.drew
                refine rxV 0 rfl (by kernel_rfl) rfl (fun _ _ => rfl) (fun _ _ hF => opField (off := 1) rfl (hF.ev 0 rfl) (by kernel_rfl)) (kM [true, false, true, true, true, true, true, true] rfl rfl) (by decide) (v := (.pointer (some ⟨g38, 1, none⟩))) ?_
                refine rxV 1 rfl (by kernel_rfl) rfl (fun _ _ => rfl) (fun _ _ hF => opSliceA (n := 64) (e := 5) (sz := 1) rfl (by kernel_rfl) (by kernel_rfl) (hF.ev 0 rfl)) (kM [false, true, true, true, true, true, true, true] rfl rfl) (by decide) (v := (.slice (some ⟨g38, 1, none⟩) 64 64)) ?_
                refine rxV 2 rfl (by kernel_rfl) rfl (fun _ _ => rfl) (fun _ _ hF => opMove rfl (hF.ev 5 rfl)) (kA rfl) (by decide) (v := (.slice A b.length c)) ?_
                refine rxV 3 rfl (by kernel_rfl) rfl (fun _ _ => rfl) (fun _ _ hF => opMove rfl (hF.ev 3 rfl)) (kA rfl) (by decide) (v := (.int .i64 (((i) : Nat) : Int))) ?_
                refine rxV 4 rfl (by kernel_rfl) rfl (fun _ _ => rfl) (fun _ _ hF => opMul rfl rfl (hF.ev 0 rfl) (wI (by omega) (by omega) (by omega))) (kM [false, true, true, true, true, true, true, true, true, true] rfl rfl) (by decide) (v := (.int .i64 (((i * 64) : Nat) : Int))) ?_
                obtain ⟨b39, off40, rfl, hL41, hb42, hR43⟩ := hR.blk (by decide) hA (by omega)
                have := hR.cap
                refine rxV 5 rfl (by kernel_rfl) rfl (fun _ _ => rfl) (fun _ _ hF => opSlcL (k := i * 64) (e := 5) (sz := 1) rfl (by kernel_rfl) (by kernel_rfl) (hF.ev 1 rfl) (hF.ev 0 rfl) rfl (by omega) (by omega)) (kM [false, false, true, true, true, true, true, true, true, true] rfl rfl) (by decide) (v := (.slice (some ⟨b39, off40 + (i * 64) * 1, none⟩) (b.length - (i * 64)) (c - (i * 64)))) ?_
                refine rx1 6 (by kernel_rfl) ?_
                have hcp44 : putL (cChg.enc (at_.toNat + i, fun _ => 0)) 1 (flat cByte ((b.drop (i * 64)).take 64)) = cChg.enc (at_.toNat + i, cutF b (i * 64)) := by rw [lst_cutF (by omega)]; exact put_snd _ _ _
                refine moE 1 rfl hH rfl (fun _ hF => smCopyK (C := cByte) (m := b.drop (i * 64)) (e := 5) 64 (Nat.min_eq_right (by omega)) rfl (by kernel_rfl) (by kernel_rfl) (ltb rfl) (hF.ev 1 rfl) (hF.ev 0 rfl) (by rw [List.length_drop]) (by rw [Cod.size]; exact leb rfl) hcp44) (cutA_some (sz := 1) (b := b39) (off := off40) (c := c) (k := i * 64) (by omega) ▸ ((hH.vu hR (by decide) hA).from (k := i * 64) (by omega))) rfl (fun _ _ => rfl) (kM [false, false, true, true, true, true, true, true, true] rfl rfl) (by decide) (PendOk.nil _ []) ?_
                clear hH
                rintro _ _ w ⟨rfl, rfl⟩ hH
                replace hH : HH w0 (bks E) [E35, [bl g38 63 (cChg.enc (at_.toNat + i, cutF b (i * 64)))]] w := hH
                refine ⟨(fun _ hs => by cases hs), ?_⟩
                refine rxEnd (by kernel_rfl) ?_
                refine qxThen ?_
                refine cxSeq ?_
                refine cxRegX mixedOrders (by kernel_rfl) ?_
                replace hH := hH.drew
                refine rxV 0 rfl (by kernel_rfl) rfl (fun _ _ => rfl) (fun _ _ hF => opMove rfl (hF.ev 7 rfl)) (kM [false, true, true, true, true, true, true, true] rfl rfl) (by decide) (v := (.pointer (some ⟨g, 0, none⟩))) ?_
                refine rxV 1 rfl (by kernel_rfl) rfl (fun _ _ => rfl) (fun _ _ hF => opNilCheck rfl (hF.ev 0 rfl)) (kM [false, true, true, true, true, true, true, true] rfl rfl) (by decide) (v := (.pointer (some ⟨g, 0, none⟩))) ?_
                refine rxV 2 rfl (by kernel_rfl) rfl (fun _ _ => rfl) (fun _ _ hF => opField (off := 0) rfl (hF.ev 0 rfl) (by kernel_rfl)) (kM [false, true, true, true, true, true, true, true] rfl rfl) (by decide) (v := (.pointer (some ⟨g, 0, none⟩))) ?_
                obtain ⟨A45, n46, c47, E48, A49, n50, c51, E52, A53, n54, c55, E56, hE60, hO57, hO58, hO59⟩ := hD36.at'
                obtain rfl : n46 = D'.change.2.is.length := hO57.len
                obtain rfl : n50 = D'.change.2.kept.length := hO58.len
                obtain rfl : n54 = D'.change.2.l.length := hO59.len
                replace hH : HH w0 (bks E) [[bl g 55 #[(.slice A45 D'.change.2.is.length c47), (.slice A49 D'.change.2.kept.length c51), (.slice A53 D'.change.2.l.length c55), (.int .i64 (D'.change.2.fuse)), (.bool (D'.change.2.gone))]], E48, E52, E56, [bl g38 63 (cChg.enc (at_.toNat + i, cutF b (i * 64)))]] w.drew := hH.cast (by rw [hE60]; simp)
                refine rxS (fun w => w.heap[g]? = some (.cells #[(.slice A45 D'.change.2.is.length c47), (.slice A49 D'.change.2.kept.length c51), (.slice A53 D'.change.2.l.length c55), (.int .i64 (D'.change.2.fuse)), (.bool (D'.change.2.gone))] 55 (0, 0))) 3 rfl (by kernel_rfl) rfl (fun _ _ => rfl) (hH.blk 0 rfl) (fun _ _ hF hS => opLoadK hS rfl (hF.ev 0 rfl) (by kernel_rfl) rfl) (kM [false, true, true, true, true, true, true, true] rfl rfl) (by decide) (v := (.slice A45 D'.change.2.is.length c47)) ?_
                refine rxV 4 rfl (by kernel_rfl) rfl (fun _ _ => rfl) (fun _ _ hF => opMove rfl (hF.ev 6 rfl)) (kA rfl) (by decide) (v := (.int .i64 (at_))) ?_
                refine rxV 5 rfl (by kernel_rfl) rfl (fun _ _ => rfl) (fun _ _ hF => opMove rfl (hF.ev 3 rfl)) (kM [true, true, true, false, true, true, true, true, true] rfl rfl) (by decide) (v := (.int .i64 (((i) : Nat) : Int))) ?_
                refine rxV 6 rfl (by kernel_rfl) rfl (fun _ _ => rfl) (fun _ _ hF => opAdd rfl (hF.ev 1 rfl) (hF.ev 0 rfl) (wI (by omega) (by omega) (by omega))) (kM [false, false, true, true, true, true, true, true, true] rfl rfl) (by decide) (v := (.int .i64 (((at_.toNat + i) : Nat) : Int))) ?_
                refine rxV 7 rfl (by kernel_rfl) rfl (fun _ _ => rfl) (fun _ _ hF => opField (off := 1) rfl (hF.ev 2 rfl) (by kernel_rfl)) (kA rfl) (by decide) (v := (.pointer (some ⟨g38, 1, none⟩))) ?_
                refine rxS (fun w => w.heap[g38]? = some (.cells (cChg.enc (at_.toNat + i, cutF b (i * 64))) 63 (0, 0))) 8 rfl (by kernel_rfl) rfl (fun _ _ => rfl) (hH.blk 4 rfl) (fun _ _ hF hS => opLoadT (C := cSec) (y := cutF b (i * 64)) rfl (hF.ev 0 rfl) (by kernel_rfl) (holds_blk0 hS).snd rfl) (kM [false, true, true, true, true, true, true, true, true] rfl rfl) (by decide) (v := (cSec.val (cutF b (i * 64)))) ?_
                have hi61 : at_.toNat + i < D'.change.2.is.length := by omega
                obtain ⟨g62, cap63, cur64, hv66, rfl, hB65⟩ := hO57.open (by omega)
                obtain ⟨rfl, rfl⟩ : A45 = some ⟨g62, 0, none⟩ ∧ c47 = cap63 := by injection hv66 with h1 h2 h3; exact ⟨h1, h3⟩
                have := hB65.le
                have hj69 : at_.toNat + i < D'.change.2.is.length := by first | exact hi61 | (simp only [List.length_drop, List.length_take]; omega) | omega
                obtain ⟨x67, hx68⟩ := get_at D'.change.2.is (at_.toNat + i) hj69
                refine rxV 9 rfl (by kernel_rfl) rfl (fun _ _ => rfl) (fun _ _ hF => opIndex (i := at_.toNat + i) (e := 58) (sz := 64) rfl (by kernel_rfl) (by kernel_rfl) (hF.ev 2 rfl) (hF.ev 1 rfl) rfl hi61) (kM [true, false, false, true, true, true, true, true, true] rfl rfl) (by decide) (v := (.pointer (some ⟨g62, 0 + (at_.toNat + i) * 64, none⟩))) ?_
                refine rx1 10 (by kernel_rfl) ?_
                obtain ⟨cur71, hcs72, hB70⟩ : ∃ cs, putL cur64 (0 + (at_.toNat + i) * 64) (cSec.enc (cutF b (i * 64))).toList = cs ∧ Bk cSec c47 cs (D'.change.2.is.set (at_.toNat + i) (cutF b (i * 64))) := ⟨_, rfl, put_at hB65 (at_.toNat + i) hj69 (cutF b (i * 64))⟩
                refine moE0 1 rfl hH rfl (fun _ hF => smStoreT (C := cSec) (z := cutF b (i * 64)) rfl (hF.ev 0 rfl) (hF.ev 1 rfl) rfl (by kernel_rfl) (room_at hB65 hj69) hcs72) trivial rfl (fun _ _ => rfl) (PendOk.go [] (by kernel_rfl) (PendOk.go [] (by kernel_rfl) (PendOk.nil _ []))) ?_
                clear hH
                rintro _ _ w rfl hH
                replace hH : HH w0 (bks E) [[bl g 55 #[(.slice (some ⟨g62, 0, none⟩) D'.change.2.is.length c47), (.slice A49 D'.change.2.kept.length c51), (.slice A53 D'.change.2.l.length c55), (.int .i64 (D'.change.2.fuse)), (.bool (D'.change.2.gone))]], [bl g62 58 cur71], E52, E56, [bl g38 63 (cChg.enc (at_.toNat + i, cutF b (i * 64)))]] w := hH
                refine ⟨(fun _ hs => by cases hs), ?_⟩
                refine rxEnd (by kernel_rfl) ?_
                refine qxThen ?_
                refine cxRegX mixedOrders (by kernel_rfl) ?_
                replace hH := hH.drew
                refine rxV 0 rfl (by kernel_rfl) rfl (fun _ _ => rfl) (fun _ _ hF => opMove rfl (hF.ev 7 rfl)) (kM [false, false, true, true, true, true, true, true] rfl rfl) (by decide) (v := (.pointer (some ⟨g, 0, none⟩))) ?_
                refine rxV 1 rfl (by kernel_rfl) rfl (fun _ _ => rfl) (fun _ _ hF => opMove rfl (hF.ev 6 rfl)) (kA rfl) (by decide) (v := (.pointer (some ⟨g, 0, none⟩))) ?_
                refine rxV 2 rfl (by kernel_rfl) rfl (fun _ _ => rfl) (fun _ _ hF => opNilCheck rfl (hF.ev 0 rfl)) (kM [false, true, true, true, true, true, true, true] rfl rfl) (by decide) (v := (.pointer (some ⟨g, 0, none⟩))) ?_
                refine rxV 3 rfl (by kernel_rfl) rfl (fun _ _ => rfl) (fun _ _ hF => opField (off := 2) rfl (hF.ev 0 rfl) (by kernel_rfl)) (kM [false, true, true, true, true, true, true, true] rfl rfl) (by decide) (v := (.pointer (some ⟨g, 2, none⟩))) ?_
                refine rxS (fun w => w.heap[g]? = some (.cells #[(.slice (some ⟨g62, 0, none⟩) D'.change.2.is.length c47), (.slice A49 D'.change.2.kept.length c51), (.slice A53 D'.change.2.l.length c55), (.int .i64 (D'.change.2.fuse)), (.bool (D'.change.2.gone))] 55 (0, 0))) 4 rfl (by kernel_rfl) rfl (fun _ _ => rfl) (hH.blk 0 rfl) (fun _ _ hF hS => opLoadK hS rfl (hF.ev 0 rfl) (by kernel_rfl) rfl) (kM [false, true, true, true, true, true, true, true] rfl rfl) (by decide) (v := (.slice A53 D'.change.2.l.length c55)) ?_
                refine rxS (fun w => w.heap[g38]? = some (.cells (cChg.enc (at_.toNat + i, cutF b (i * 64))) 63 (0, 0))) 5 rfl (by kernel_rfl) rfl (fun _ _ => rfl) (hH.blk 4 rfl) (fun _ _ hF hS => opLoadT (C := cChg) (y := (at_.toNat + i, cutF b (i * 64))) rfl (hF.ev 2 rfl) (by kernel_rfl) (holds_blk0 hS) rfl) (kM [true, true, false, true, true, true, true, true] rfl rfl) (by decide) (v := (cChg.val (at_.toNat + i, cutF b (i * 64)))) ?_
                refine rx1 6 (by kernel_rfl) ?_
                refine moM rfl hH (fun _ hF => smLit1 (e := 63) (sz := 65) (z := (cChg.val (0, fun _ => 0))) (by_ := 72) (cs := cChg.enc (at_.toNat + i, cutF b (i * 64))) rfl (by kernel_rfl) (by kernel_rfl) (hF.ev 0 rfl) (cChg.len (at_.toNat + i, cutF b (i * 64))) (ltb rfl) (leb rfl) rfl) trivial rfl (fun _ _ => rfl) (kM [false, true, true, true, true, true, true, true] rfl rfl) (by decide) (PendOk.go [] (by kernel_rfl) (PendOk.keep (PendOk.nil _ []))) ?_
                clear hH
                rintro _ _ w ⟨g73, rfl, rfl⟩ hH
                replace hH : HH w0 (bks E) [[bl g 55 #[(.slice (some ⟨g62, 0, none⟩) D'.change.2.is.length c47), (.slice A49 D'.change.2.kept.length c51), (.slice A53 D'.change.2.l.length c55), (.int .i64 (D'.change.2.fuse)), (.bool (D'.change.2.gone))]], [bl g62 58 cur71], E52, E56, [bl g38 63 (cChg.enc (at_.toNat + i, cutF b (i * 64)))], [bl g73 63 (cChg.enc (at_.toNat + i, cutF b (i * 64)))]] w := hH
                refine ⟨(by
                  intro s hs
                  simp only [List.mem_cons, List.not_mem_nil, or_false] at hs
                  rcases hs with rfl
                  · exact (hH.blk 0 rfl)
                  ), ?_⟩
                refine rx1 7 (by kernel_rfl) ?_
                refine moE 3 rfl hH rfl (fun _ hF => smAppT (C := cChg) (l := D'.change.2.l) (m := [(at_.toNat + i, cutF b (i * 64))]) (e := 63) (z := (cChg.val (0, fun _ => 0))) (by_ := 72) rfl (by kernel_rfl) (by kernel_rfl) rfl (ltb rfl) (hF.ev 1 rfl) hO59 (hF.ev 0 rfl) rfl (fun h => by cases h) (by unfold maxLen; omega) (by omega)) ((Bk.lit1 (C := cChg) (at_.toNat + i, cutF b (i * 64))).vu (hH.blk 5 rfl) rfl) rfl (fun _ _ => rfl) (kM [false, false, true, true, true, true, true, true] rfl rfl) (by decide) (PendOk.go [] (by kernel_rfl) (PendOk.nil _ [])) ?_
                clear hH
                rintro v76 E77 w ⟨hO78, _⟩ hH
                replace hH : HH w0 (bks E) [[bl g 55 #[(.slice (some ⟨g62, 0, none⟩) D'.change.2.is.length c47), (.slice A49 D'.change.2.kept.length c51), (.slice A53 D'.change.2.l.length c55), (.int .i64 (D'.change.2.fuse)), (.bool (D'.change.2.gone))]], [bl g62 58 cur71], E52, E77, [bl g38 63 (cChg.enc (at_.toNat + i, cutF b (i * 64)))], [bl g73 63 (cChg.enc (at_.toNat + i, cutF b (i * 64)))]] w := hH
                replace hO78 : OwnT cChg 63 v76 (D'.change.2.l ++ [(at_.toNat + i, cutF b (i * 64))]) E77 := hO78
                obtain ⟨A74, c75, rfl⟩ := hO78.slice
                refine ⟨(fun _ hs => by cases hs), ?_⟩
                refine rxV 8 rfl (by kernel_rfl) rfl (fun _ _ => rfl) (fun _ _ hF => opNilCheck rfl (hF.ev 1 rfl)) (kM [true, false, true, true, true, true, true] rfl rfl) (by decide) (v := (.pointer (some ⟨g, 0, none⟩))) ?_
                refine rxV 9 rfl (by kernel_rfl) rfl (fun _ _ => rfl) (fun _ _ hF => opField (off := 2) rfl (hF.ev 0 rfl) (by kernel_rfl)) (kM [false, true, true, true, true, true, true] rfl rfl) (by decide) (v := (.pointer (some ⟨g, 2, none⟩))) ?_
                refine rx1 10 (by kernel_rfl) ?_
                refine moE0 0 rfl hH rfl (fun _ hF => smStore (v := (.slice A74 ((D'.change.2.l ++ [(at_.toNat + i, cutF b (i * 64))]).length) c75)) rfl (hF.ev 0 rfl) (hF.ev 1 rfl) (by kernel_rfl) (ltb rfl) rfl rfl) trivial rfl (fun _ _ => rfl) (PendOk.nil _ []) ?_
                clear hH
                rintro _ _ w rfl hH
                replace hH : HH w0 (bks E) [[bl g 55 #[(.slice (some ⟨g62, 0, none⟩) D'.change.2.is.length c47), (.slice A49 D'.change.2.kept.length c51), (.slice A74 ((D'.change.2.l ++ [(at_.toNat + i, cutF b (i * 64))]).length) c75), (.int .i64 (D'.change.2.fuse)), (.bool (D'.change.2.gone))]], [bl g62 58 cur71], E52, E77, [bl g38 63 (cChg.enc (at_.toNat + i, cutF b (i * 64)))], [bl g73 63 (cChg.enc (at_.toNat + i, cutF b (i * 64)))]] w := hH
                refine ⟨(fun _ hs => by cases hs), ?_⟩
                refine rxEnd (by kernel_rfl) ?_
                refine qxInN ?_
                refine qxThen ?_
                refine cxReg ?_
                refine pxV (v := (.int .i64 (((i + 1) : Nat) : Int))) (fun _ _ hF => opAdd rfl (hF.ev 2 rfl) rfl (wI (by omega) (by omega) (by omega))) rfl (fun _ _ => rfl) (kM [false, false, false, true, true, true, true] rfl rfl) (by decide) ?_
                refine pxV (v := (.int .i64 (((i + 1) : Nat) : Int))) (fun _ _ hF => opMove rfl (hF.ev 0 rfl)) rfl (fun _ _ => rfl) (kM [false, true, true, true, true] rfl rfl) (by decide) ?_
                refine pxEnd ?_
                obtain ⟨E79, hE80, hD81⟩ : ∃ E, E = ([[bl g 55 #[(.slice (some ⟨g62, 0, none⟩) D'.change.2.is.length c47), (.slice A49 D'.change.2.kept.length c51), (.slice A74 ((D'.change.2.l ++ [(at_.toNat + i, cutF b (i * 64))]).length) c75), (.int .i64 (D'.change.2.fuse)), (.bool (D'.change.2.gone))]], [bl g62 58 cur71], E52, E77] : List Hl).flatten ∧ DrAt g (D'.change.2.put (at_.toNat + i) (cutF b (i * 64))) E := ⟨_, rfl, putR_ok hD36.ok (by rw [hci]; omega) _, _, _, _, _, _, _, _, _, _, _, _, _, rfl, (hB70.own 58 g62 (by rw [List.length_set])), hO58, hO78⟩
                replace hH : HH w0 (bks E) [E79, [bl g38 63 (cChg.enc (at_.toNat + i, cutF b (i * 64)))], [bl g73 63 (cChg.enc (at_.toNat + i, cutF b (i * 64)))]] w := hH.cast (by rw [hE80]; simp)
                replace hH : HH w0 (bks E) [E79] w := hH.only [true, false, false]
                exact qxRound (i + 1, (D'.change.2.put (at_.toNat + i) (cutF b (i * 64))), E79) ⟨hH, (by omega), hD81, (by rw [hw, writeR_step (by omega) hc37]), (by show (List.set _ _ _).length = _; rw [List.length_set]; exact hci), (by show (_ ++ [_]).length ≤ _; rw [List.length_append]; simp; omega)⟩ (by omega) (slots_at [0, 1, 2, 3, 4] rfl)
            · refine cxExit ?_
              refine qxThenE ?_
              refine qxThenE ?_
              refine qxInE ?_
              refine qxThen ?_
              refine cxSeq ?_
              refine cxReg ?_
              refine pxV (v := (.int .i64 0)) (fun _ _ hF => opAssign rfl rfl) rfl (fun _ _ => rfl) (kM [false, false, false, false, false, false] rfl rfl) (by decide) ?_
              refine pxEnd ?_
              refine qxThen ?_
              refine cxRet ?_
              refine qxRet1 0 rfl rfl ?_
              have he : D.writes at_ b = (0, D') := by unfold Dr.writes; rw [if_neg (by omega), if_neg (not_not_intro hh), if_neg (by simp [hc27]), hw, writeR_done (by omega)]; rfl
              exact ⟨_, _, rfl, ⟨by rw [he]; rfl, by rw [he]; exact hD'⟩, hH.out1 [true] rfl⟩

def Dr.sync (D : Dr) : Nat × Dr := if D.change.1 = true then (0, { D.change.2 with kept := D.change.2.is, l := [] }) else (8, D.change.2)
def Dr.crash (D : Dr) (keep : List Bool) : Dr := ⟨synced keep 0 D.l D.kept, synced keep 0 D.l D.kept, [], -1, false⟩
theorem crashR_ok {D : Dr} (h : D.Ok) (keep : List Bool) : (D.crash keep).Ok := by
  have h1 := h.nn
  have h2 := h.sz
  exact ⟨rfl, by show (synced keep 0 D.l D.kept).length ≤ _; rw [synced_len]; omega, (fun c hc => by cases hc), (by show (-1 : Int) ≤ -1; decide), (by show (-1 : Int) ≤ 9223372036854775807; decide)⟩
theorem synced_skip {keep : List Bool} {U : List (Nat × Sec)} {i : Nat} {x : Nat × Sec} {S : List Sec} (hx : U[i]? = some x) (hb : ¬ keep.length > 0) : synced keep i (U.drop i) S = synced keep (i + 1) (U.drop (i + 1)) S := by
  rw [drop_at hx]
  show synced keep (i + 1) _ (if keep.getD (i % keep.length) false then _ else _) = _
  obtain rfl : keep = [] := List.eq_nil_of_length_eq_zero (by omega)
  rfl

set_option maxHeartbeats 8000000 in
theorem syncR_c (g : Nat) (D : Dr) (E : Hl) (hD : DrAt g D E) : Does Try.prog 23 #[(.pointer (some ⟨g, 0, none⟩))] E (fun _ => True) (fun v E' => v = .int .i64 (D.sync.1 : Int) ∧ DrAt g D.sync.2 E') := by
  refine does_of (fn := Try.f23) Try.func23 rfl Try.ntmps23 (Nat.le_of_ble_eq_true rfl) rfl ?_
  intro w0 hH hR
  refine cxSeq ?_
  refine cxReg ?_
  refine pxV (v := (.int .i64 0)) (fun _ _ hF => opAssign rfl rfl) rfl (fun _ _ => rfl) (kA rfl) (by decide) ?_
  refine pxEnd ?_
  refine qxThen ?_
  refine cxSeq ?_
  refine cxSeq ?_
  refine cxReg ?_
  refine pxV (v := (.pointer (some ⟨g, 0, none⟩))) (fun _ _ hF => opMove rfl (hF.ev 1 rfl)) rfl (fun _ _ => rfl) (kM [false, true] rfl rfl) (by decide) ?_
  refine pxE 0 hH rfl (fun _ hF => Does.small (change_c g D E hD ) (fun w => opCall rfl Try.func30 rfl rfl (Evs.cons (hF.ev 0 rfl) Evs.nil) w)) trivial rfl (fun _ _ => rfl) (kM [false, true] rfl rfl) (by decide) ?_
  clear hH
  rintro _ E1 w ⟨rfl, hD2⟩ hH
  replace hH : HH w0 (bks E) [E1] w := hH
  refine pxV (v := (.bool (!(D.change.1)))) (fun _ _ hF => opNot rfl (hF.ev 0 rfl) rfl) rfl (fun _ _ => rfl) (kM [false, true] rfl rfl) (by decide) ?_
  refine pxEnd ?_
  refine qxThen ?_
  refine cxB 0 rfl rfl (fun hc3 => ?_) (fun hc3 => ?_)
  · replace hc3 : D.change.1 = false := by simpa using hc3
    refine cxSeq ?_
    refine cxReg ?_
    refine pxV (v := (.int .i64 8)) (fun _ _ hF => opAssign rfl rfl) rfl (fun _ _ => rfl) (kM [false, false] rfl rfl) (by decide) ?_
    refine pxEnd ?_
    refine qxThen ?_
    refine cxRet ?_
    refine qxThenR ?_
    refine qxRet1 0 rfl rfl ?_
    have he : D.sync = (8, D.change.2) := by unfold Dr.sync; rw [if_neg (by simp [hc3])]
    exact ⟨_, _, rfl, ⟨by rw [he]; rfl, by rw [he]; exact hD2⟩, hH.out1 [true] rfl⟩
  · replace hc3 : D.change.1 = true := by simpa using hc3
    have hok := hD2.ok; have hsz := hok.sz
    refine cxSkip ?_
    refine qxThen ?_
    refine cxSeq ?_
    refine cxReg ?_
    refine pxV (v := (.pointer (some ⟨g, 0, none⟩))) (fun _ _ hF => opMove rfl (hF.ev 1 rfl)) rfl (fun _ _ => rfl) (kM [false, true] rfl rfl) (by decide) ?_
    refine pxV (v := (.pointer (some ⟨g, 0, none⟩))) (fun _ _ hF => opMove rfl (hF.ev 1 rfl)) rfl (fun _ _ => rfl) (kA rfl) (by decide) ?_
    refine pxM hH (fun _ hF => smLit0 (e := 58) rfl (by kernel_rfl) (by kernel_rfl)) trivial rfl (fun _ _ => rfl) (kA rfl) (by decide) ?_
    clear hH
    rintro _ _ w ⟨g4, rfl, rfl⟩ hH
    replace hH : HH w0 (bks E) [E1, [bl g4 58 #[]]] w := hH
    refine pxV (v := (.pointer (some ⟨g, 0, none⟩))) (fun _ _ hF => opMove rfl (hF.ev 3 rfl)) rfl (fun _ _ => rfl) (kM [true, true, true, false] rfl rfl) (by decide) ?_
    refine pxV (v := (.pointer (some ⟨g, 0, none⟩))) (fun _ _ hF => opNilCheck rfl (hF.ev 0 rfl)) rfl (fun _ _ => rfl) (kM [false, true, true, true] rfl rfl) (by decide) ?_
    refine pxV (v := (.pointer (some ⟨g, 0, none⟩))) (fun _ _ hF => opField (off := 0) rfl (hF.ev 0 rfl) (by kernel_rfl)) rfl (fun _ _ => rfl) (kM [false, true, true, true] rfl rfl) (by decide) ?_
    obtain ⟨A5, n6, c7, E8, A9, n10, c11, E12, A13, n14, c15, E16, hE20, hO17, hO18, hO19⟩ := hD2.at'
    obtain rfl : n6 = D.change.2.is.length := hO17.len
    obtain rfl : n10 = D.change.2.kept.length := hO18.len
    obtain rfl : n14 = D.change.2.l.length := hO19.len
    replace hH : HH w0 (bks E) [[bl g 55 #[(.slice A5 D.change.2.is.length c7), (.slice A9 D.change.2.kept.length c11), (.slice A13 D.change.2.l.length c15), (.int .i64 (D.change.2.fuse)), (.bool (D.change.2.gone))]], E8, E12, E16, [bl g4 58 #[]]] w := hH.cast (by rw [hE20]; simp)
    refine pxS (v := (.slice A5 D.change.2.is.length c7)) (fun w => w.heap[g]? = some (.cells #[(.slice A5 D.change.2.is.length c7), (.slice A9 D.change.2.kept.length c11), (.slice A13 D.change.2.l.length c15), (.int .i64 (D.change.2.fuse)), (.bool (D.change.2.gone))] 55 (0, 0))) (hH.blk 0 rfl) (fun _ _ hF hS => opLoadK hS rfl (hF.ev 0 rfl) (by kernel_rfl) rfl) rfl (fun _ _ => rfl) (kM [false, true, true, true] rfl rfl) (by decide) ?_
    refine pxE 4 hH rfl (fun _ hF => smAppT (C := cSec) (l := []) (m := D.change.2.is) (e := 58) (z := (cSec.val (fun _ => 0))) (by_ := 64) rfl (by kernel_rfl) (by kernel_rfl) rfl (ltb rfl) (hF.ev 1 rfl) ((Bk.lit0 (C := cSec)).own 58 g4 rfl) (hF.ev 0 rfl) rfl hO17.nilA (by rw [List.length_nil]; unfold maxLen; omega) (by rw [List.length_nil]; omega)) (hO17.vuAt (hH.has 1 rfl)) rfl (fun _ _ => rfl) (kM [false, false, true, true] rfl rfl) (by decide) ?_
    clear hH
    rintro v23 E24 w ⟨hO25, _⟩ hH
    replace hH : HH w0 (bks E) [[bl g 55 #[(.slice A5 D.change.2.is.length c7), (.slice A9 D.change.2.kept.length c11), (.slice A13 D.change.2.l.length c15), (.int .i64 (D.change.2.fuse)), (.bool (D.change.2.gone))]], E8, E12, E16, E24] w := hH
    replace hO25 : OwnT cSec 58 v23 D.change.2.is E24 := hO25
    obtain ⟨A21, c22, rfl⟩ := hO25.slice
    refine pxV (v := (.pointer (some ⟨g, 0, none⟩))) (fun _ _ hF => opNilCheck rfl (hF.ev 2 rfl)) rfl (fun _ _ => rfl) (kM [true, true, false] rfl rfl) (by decide) ?_
    refine pxV (v := (.pointer (some ⟨g, 1, none⟩))) (fun _ _ hF => opField (off := 1) rfl (hF.ev 0 rfl) (by kernel_rfl)) rfl (fun _ _ => rfl) (kM [false, true, true] rfl rfl) (by decide) ?_
    refine pxE0 0 hH rfl (fun _ hF => smStore (v := (.slice A21 D.change.2.is.length c22)) rfl (hF.ev 0 rfl) (hF.ev 1 rfl) (by kernel_rfl) (ltb rfl) rfl rfl) trivial rfl (fun _ _ => rfl) ?_
    clear hH
    rintro _ _ w rfl hH
    replace hH : HH w0 (bks E) [[bl g 55 #[(.slice A5 D.change.2.is.length c7), (.slice A21 D.change.2.is.length c22), (.slice A13 D.change.2.l.length c15), (.int .i64 (D.change.2.fuse)), (.bool (D.change.2.gone))]], E8, E12, E16, E24] w := hH
    refine pxV (v := (.pointer (some ⟨g, 0, none⟩))) (fun _ _ hF => opNilCheck rfl (hF.ev 2 rfl)) rfl (fun _ _ => rfl) (kM [false, false, false] rfl rfl) (by decide) ?_
    refine pxV (v := (.pointer (some ⟨g, 2, none⟩))) (fun _ _ hF => opField (off := 2) rfl (hF.ev 0 rfl) (by kernel_rfl)) rfl (fun _ _ => rfl) (kM [false] rfl rfl) (by decide) ?_
    refine pxE0 0 hH rfl (fun _ hF => smStore (v := (.slice none 0 0)) rfl (hF.ev 0 rfl) rfl (by kernel_rfl) (ltb rfl) rfl rfl) trivial rfl (fun _ _ => rfl) ?_
    clear hH
    rintro _ _ w rfl hH
    replace hH : HH w0 (bks E) [[bl g 55 #[(.slice A5 D.change.2.is.length c7), (.slice A21 D.change.2.is.length c22), (.slice none 0 0), (.int .i64 (D.change.2.fuse)), (.bool (D.change.2.gone))]], E8, E12, E16, E24] w := hH
    refine pxEnd ?_
    refine qxThen ?_
    refine cxSeq ?_
    refine cxReg ?_
    refine pxV (v := (.int .i64 0)) (fun _ _ hF => opAssign rfl rfl) rfl (fun _ _ => rfl) (kM [false] rfl rfl) (by decide) ?_
    refine pxEnd ?_
    refine qxThen ?_
    refine cxRet ?_
    refine qxRet1 0 rfl rfl ?_
    replace hH := HH.pad hH 1
    replace hH : HH w0 (bks E) [[bl g 55 #[(.slice A5 D.change.2.is.length c7), (.slice A21 D.change.2.is.length c22), (.slice none 0 0), (.int .i64 (D.change.2.fuse)), (.bool (D.change.2.gone))]], E8, E24, []] w := HH.sel hH [0, 1, 4, 5] rfl (by decide)
    obtain ⟨E26, hE27, hD28⟩ : ∃ E, E = ([[bl g 55 #[(.slice A5 D.change.2.is.length c7), (.slice A21 D.change.2.is.length c22), (.slice none 0 0), (.int .i64 (D.change.2.fuse)), (.bool (D.change.2.gone))]], E8, E24, []] : List Hl).flatten ∧ DrAt g ({ D.change.2 with kept := D.change.2.is, l := [] } : Dr) E := ⟨_, rfl, ⟨rfl, hok.sz, (fun c hc => by cases hc), hok.min, hok.max⟩, _, _, _, _, _, _, _, _, _, _, _, _, rfl, hO17, hO25, (OwnT.nil cChg 63)⟩
    replace hH : HH w0 (bks E) [E26] w := hH.cast (by rw [hE27]; simp)
    have he : D.sync = (0, ({ D.change.2 with kept := D.change.2.is, l := [] } : Dr)) := by unfold Dr.sync; rw [if_pos (by simp [hc3])]
    exact ⟨_, _, rfl, ⟨by rw [he]; rfl, by rw [he]; exact hD28⟩, hH.out1 [true] rfl⟩

set_option maxHeartbeats 8000000 in
theorem crashR_c (g : Nat) (D : Dr) (E : Hl) (hD : DrAt g D E) (keep : List Bool) (A : Option Addr) (c : Nat) (hA : Off A keep.length (bks E)) (hU : D.l.length ≤ 1000000) : Does Try.prog 24 #[(.pointer (some ⟨g, 0, none⟩)), (.slice A keep.length c)] E (fun w => Vu cBool w A keep.length c keep) (fun v E' => v = .tuple #[] ∧ DrAt g (D.crash keep) E') := by
  refine does_of (fn := Try.f24) Try.func24 rfl Try.ntmps24 (Nat.le_of_ble_eq_true rfl) rfl ?_
  intro w0 hH hR
  have hok := hD.ok; have hsz := hok.sz; have hnn := hok.nn
  refine cxSeq ?_
  refine cxReg ?_
  refine pxM hH (fun _ hF => smLit0 (e := 58) rfl (by kernel_rfl) (by kernel_rfl)) trivial rfl (fun _ _ => rfl) (kA rfl) (by decide) ?_
  clear hH
  rintro _ _ w ⟨g1, rfl, rfl⟩ hH
  replace hH : HH w0 (bks E) [E, [bl g1 58 #[]]] w := hH
  refine pxV (v := (.pointer (some ⟨g, 0, none⟩))) (fun _ _ hF => opMove rfl (hF.ev 1 rfl)) rfl (fun _ _ => rfl) (kA rfl) (by decide) ?_
  refine pxV (v := (.pointer (some ⟨g, 0, none⟩))) (fun _ _ hF => opNilCheck rfl (hF.ev 0 rfl)) rfl (fun _ _ => rfl) (kM [false, true, true, true] rfl rfl) (by decide) ?_
  refine pxV (v := (.pointer (some ⟨g, 1, none⟩))) (fun _ _ hF => opField (off := 1) rfl (hF.ev 0 rfl) (by kernel_rfl)) rfl (fun _ _ => rfl) (kM [false, true, true, true] rfl rfl) (by decide) ?_
  obtain ⟨A2, n3, c4, E5, A6, n7, c8, E9, A10, n11, c12, E13, hE17, hO14, hO15, hO16⟩ := hD.at'
  obtain rfl : n3 = D.is.length := hO14.len
  obtain rfl : n7 = D.kept.length := hO15.len
  obtain rfl : n11 = D.l.length := hO16.len
  replace hH : HH w0 (bks E) [[bl g 55 #[(.slice A2 D.is.length c4), (.slice A6 D.kept.length c8), (.slice A10 D.l.length c12), (.int .i64 (D.fuse)), (.bool (D.gone))]], E5, E9, E13, [bl g1 58 #[]]] w := hH.cast (by rw [hE17]; simp)
  refine pxS (v := (.slice A6 D.kept.length c8)) (fun w => w.heap[g]? = some (.cells #[(.slice A2 D.is.length c4), (.slice A6 D.kept.length c8), (.slice A10 D.l.length c12), (.int .i64 (D.fuse)), (.bool (D.gone))] 55 (0, 0))) (hH.blk 0 rfl) (fun _ _ hF hS => opLoadK hS rfl (hF.ev 0 rfl) (by kernel_rfl) rfl) rfl (fun _ _ => rfl) (kM [false, true, true, true] rfl rfl) (by decide) ?_
  refine pxE 4 hH rfl (fun _ hF => smAppT (C := cSec) (l := []) (m := D.kept) (e := 58) (z := (cSec.val (fun _ => 0))) (by_ := 64) rfl (by kernel_rfl) (by kernel_rfl) rfl (ltb rfl) (hF.ev 1 rfl) ((Bk.lit0 (C := cSec)).own 58 g1 rfl) (hF.ev 0 rfl) rfl hO15.nilA (by rw [List.length_nil]; unfold maxLen; omega) (by rw [List.length_nil]; omega)) (hO15.vuAt (hH.has 2 rfl)) rfl (fun _ _ => rfl) (kM [false, false, true, true] rfl rfl) (by decide) ?_
  clear hH
  rintro v20 E21 w ⟨hO22, _⟩ hH
  replace hH : HH w0 (bks E) [[bl g 55 #[(.slice A2 D.is.length c4), (.slice A6 D.kept.length c8), (.slice A10 D.l.length c12), (.int .i64 (D.fuse)), (.bool (D.gone))]], E5, E9, E13, E21] w := hH
  replace hO22 : OwnT cSec 58 v20 D.kept E21 := hO22
  obtain ⟨A18, c19, rfl⟩ := hO22.slice
  refine pxV (v := (.slice A18 D.kept.length c19)) (fun _ _ hF => opAssign rfl (hF.ev 0 rfl)) rfl (fun _ _ => rfl) (kM [false, true, true] rfl rfl) (by decide) ?_
  refine pxEnd ?_
  refine qxThen ?_
  refine cxSeq ?_
  refine cxSeq ?_
  refine cxReg ?_
  refine pxV (v := (.pointer (some ⟨g, 0, none⟩))) (fun _ _ hF => opMove rfl (hF.ev 1 rfl)) rfl (fun _ _ => rfl) (kA rfl) (by decide) ?_
  refine pxV (v := (.pointer (some ⟨g, 0, none⟩))) (fun _ _ hF => opNilCheck rfl (hF.ev 0 rfl)) rfl (fun _ _ => rfl) (kM [false, true, true, true] rfl rfl) (by decide) ?_
  refine pxV (v := (.pointer (some ⟨g, 2, none⟩))) (fun _ _ hF => opField (off := 2) rfl (hF.ev 0 rfl) (by kernel_rfl)) rfl (fun _ _ => rfl) (kM [false, true, true, true] rfl rfl) (by decide) ?_
  refine pxS (v := (.slice A10 D.l.length c12)) (fun w => w.heap[g]? = some (.cells #[(.slice A2 D.is.length c4), (.slice A6 D.kept.length c8), (.slice A10 D.l.length c12), (.int .i64 (D.fuse)), (.bool (D.gone))] 55 (0, 0))) (hH.blk 0 rfl) (fun _ _ hF hS => opLoadK hS rfl (hF.ev 0 rfl) (by kernel_rfl) rfl) rfl (fun _ _ => rfl) (kM [false, true, true, true] rfl rfl) (by decide) ?_
  refine pxV (v := (.int .i64 (((D.l.length) : Nat) : Int))) (fun _ _ hF => opLen (e := 63) rfl (by kernel_rfl) (hF.ev 0 rfl)) rfl (fun _ _ => rfl) (kM [false, true, true, true] rfl rfl) (by decide) ?_
  refine pxV (v := (.int .i64 0)) (fun _ _ hF => opMove rfl rfl) rfl (fun _ _ => rfl) (kA rfl) (by decide) ?_
  refine pxEnd ?_
  refine qxThen ?_
  refine cxBlock ?_
  refine cxLoop (σ := Nat × (List Sec) × Hl) (fun x => [(17, (.int .i64 (((x.1) : Nat) : Int))), (16, (.int .i64 (((D.l.length) : Nat) : Int))), (4, (.slice A18 D.kept.length c19)), (1, (.slice A keep.length c)), (0, (.pointer (some ⟨g, 0, none⟩)))]) (fun x w => HH w0 (bks E) [[bl g 55 #[(.slice A2 D.is.length c4), (.slice A6 D.kept.length c8), (.slice A10 D.l.length c12), (.int .i64 (D.fuse)), (.bool (D.gone))]], E5, E9, E13, x.2.2] w ∧ (x.1 ≤ D.l.length) ∧ (OwnT cSec 58 (.slice A18 D.kept.length c19) x.2.1 x.2.2) ∧ (x.2.1.length = D.kept.length) ∧ (synced keep 0 D.l D.kept = synced keep x.1 (D.l.drop x.1) x.2.1)) (fun x => D.l.length - x.1) (0, D.kept, E21) ⟨hH, (Nat.zero_le _), hO22, rfl, rfl⟩ (slots_at [0, 1, 2, 4, 3] rfl) ?_
  clear hH
  rintro ⟨i, S, E2⟩ w ⟨hH, hi, hO2, hS, hsy⟩
  change CX _ _ _ _ [(17, (.int .i64 (((i) : Nat) : Int))), (16, (.int .i64 (((D.l.length) : Nat) : Int))), (4, (.slice A18 D.kept.length c19)), (1, (.slice A keep.length c)), (0, (.pointer (some ⟨g, 0, none⟩)))] _
  replace hH : HH w0 (bks E) [[bl g 55 #[(.slice A2 D.is.length c4), (.slice A6 D.kept.length c8), (.slice A10 D.l.length c12), (.int .i64 (D.fuse)), (.bool (D.gone))]], E5, E9, E13, E2] w := hH
  replace hi : i ≤ D.l.length := hi
  replace hO2 : OwnT cSec 58 (.slice A18 D.kept.length c19) S E2 := hO2
  replace hS : S.length = D.kept.length := hS
  replace hsy : synced keep 0 D.l D.kept = synced keep i (D.l.drop i) S := hsy
  refine cxSeq ?_
  refine cxReg ?_
  refine pxV (v := (.bool (decide (i < D.l.length)))) (fun _ _ hF => opLss rfl (hF.ev 0 rfl) (hF.ev 1 rfl) (dc (by omega))) rfl (fun _ _ => rfl) (kA rfl) (by decide) ?_
  refine pxEnd ?_
  refine qxThen ?_
  refine cxSeq ?_
  refine cxP 0 rfl rfl (fun hc23 => ?_) (fun hc23 => ?_)
  · refine cxSkip ?_
    refine qxThen ?_
    refine cxSeq ?_
    refine cxBlock ?_
    refine cxSeq ?_
    refine cxReg ?_
    refine pxV (v := (.int .i64 (((i) : Nat) : Int))) (fun _ _ hF => opMove rfl (hF.ev 1 rfl)) rfl (fun _ _ => rfl) (kM [false, true, true, true, true, true] rfl rfl) (by decide) ?_
    refine pxV (v := (.int .i64 (((i) : Nat) : Int))) (fun _ _ hF => opAssign rfl (hF.ev 0 rfl)) rfl (fun _ _ => rfl) (kM [false, true, true, true, true, true] rfl rfl) (by decide) ?_
    refine pxEnd ?_
    refine qxThen ?_
    refine cxSeq ?_
    obtain ⟨x0, hx0⟩ := get_at D.l i (by omega)
    have hxb := hok.l _ (List.mem_of_getElem? hx0)
    refine cxReg ?_
    refine pxV (v := (.slice A keep.length c)) (fun _ _ hF => opMove rfl (hF.ev 4 rfl)) rfl (fun _ _ => rfl) (kA rfl) (by decide) ?_
    refine pxV (v := (.int .i64 (((keep.length) : Nat) : Int))) (fun _ _ hF => opLen (e := 4) rfl (by kernel_rfl) (hF.ev 0 rfl)) rfl (fun _ _ => rfl) (kM [false, true, true, true, true, true, true] rfl rfl) (by decide) ?_
    refine pxV (v := (.bool (decide (keep.length > 0)))) (fun _ _ hF => opGtr rfl (hF.ev 0 rfl) rfl (dc (by omega))) rfl (fun _ _ => rfl) (kM [false, true, true, true, true, true, true] rfl rfl) (by decide) ?_
    refine pxV (v := (.bool (decide (keep.length > 0)))) (fun _ _ hF => opMove rfl (hF.ev 0 rfl)) rfl (fun _ _ => rfl) (kM [false, true, true, true, true, true, true] rfl rfl) (by decide) ?_
    refine pxSplitP 0 rfl (l1 := [(23, (.bool true)), (5, (.int .i64 (((i) : Nat) : Int))), (17, (.int .i64 (((i) : Nat) : Int))), (16, (.int .i64 (((D.l.length) : Nat) : Int))), (4, (.slice A18 D.kept.length c19)), (1, (.slice A keep.length c)), (0, (.pointer (some ⟨g, 0, none⟩)))]) (l2 := [(23, (.bool false)), (5, (.int .i64 (((i) : Nat) : Int))), (17, (.int .i64 (((i) : Nat) : Int))), (16, (.int .i64 (((D.l.length) : Nat) : Int))), (4, (.slice A18 D.kept.length c19)), (1, (.slice A keep.length c)), (0, (.pointer (some ⟨g, 0, none⟩)))]) rfl rfl (fun hg24 => ?_) (fun hg24 => ?_)
    · refine pxV (v := (.slice A keep.length c)) (fun _ _ hF => opMove rfl (hF.ev 5 rfl)) rfl (gOn 0 rfl rfl rfl (by decide)) (kA rfl) (by decide) ?_
      refine pxV (v := (.int .i64 (((i) : Nat) : Int))) (fun _ _ hF => opMove rfl (hF.ev 2 rfl)) rfl (gOn 1 rfl rfl rfl (by decide)) (kA rfl) (by decide) ?_
      refine pxV (v := (.slice A keep.length c)) (fun _ _ hF => opMove rfl (hF.ev 7 rfl)) rfl (gOn 2 rfl rfl rfl (by decide)) (kA rfl) (by decide) ?_
      refine pxV (v := (.int .i64 (((keep.length) : Nat) : Int))) (fun _ _ hF => opLen (e := 4) rfl (by kernel_rfl) (hF.ev 0 rfl)) rfl (gOn 3 rfl rfl rfl (by decide)) (kM [false, true, true, true, true, true, true, true, true, true] rfl rfl) (by decide) ?_
      refine pxV (v := (.int .i64 (((i % keep.length) : Nat) : Int))) (fun _ _ hF => opRem (z := ((i % keep.length : Nat) : Int)) rfl (hF.ev 1 rfl) (hF.ev 0 rfl) (by omega) remN) rfl (gOn 3 rfl rfl rfl (by decide)) (kM [false, false, true, true, true, true, true, true, true, true] rfl rfl) (by decide) ?_
      have hi25 : i % keep.length < keep.length := Nat.mod_lt _ (by omega)
      obtain ⟨b26, off27, rfl, hL28, hb29, hR30⟩ := hR.blk (by decide) hA (by omega)
      have := hR.cap
      have hj33 : i % keep.length < keep.length := by first | exact hi25 | (simp only [List.length_drop, List.length_take]; omega) | omega
      obtain ⟨x31, hx32⟩ := get_at keep (i % keep.length) hj33
      refine pxV (v := (.pointer (some ⟨b26, off27 + (i % keep.length) * 1, none⟩))) (fun _ _ hF => opIndex (i := i % keep.length) (e := 4) (sz := 1) rfl (by kernel_rfl) (by kernel_rfl) (hF.ev 1 rfl) (hF.ev 0 rfl) rfl hi25) rfl (gOn 2 rfl rfl rfl (by decide)) (kM [false, false, true, true, true, true, true, true, true] rfl rfl) (by decide) ?_
      refine pxS (v := (.bool (x31))) (fun w => HoldsL cBool w b26 off27 keep) (hH.holdsL hL28 hb29 hR30) (fun _ _ hF hS => opLoadT (C := cBool) (y := x31) rfl (hF.ev 0 rfl) (by kernel_rfl) (hS (i % keep.length) _ hx32) rfl) rfl (gOn 1 rfl rfl rfl (by decide)) (kM [false, true, true, true, true, true, true, true] rfl rfl) (by decide) ?_
      refine pxV (v := (.bool (x31))) (fun _ _ hF => opPickT rfl (hF.ev 1 rfl) (hF.ev 0 rfl)) rfl (fun _ _ => rfl) (kM [false, false, true, true, true, true, true, true] rfl rfl) (by decide) ?_
      refine pxEnd ?_
      refine qxThen ?_
      refine cxB 0 rfl rfl (fun hc34 => ?_) (fun hc34 => ?_)
      · refine cxRegX mixedOrders (by kernel_rfl) ?_
        replace hH := hH.drew
        refine rxV 0 rfl (by kernel_rfl) rfl (fun _ _ => rfl) (fun _ _ hF => opMove rfl (hF.ev 4 rfl)) (kM [false, true, true, true, true, true, true] rfl rfl) (by decide) (v := (.slice A18 D.kept.length c19)) ?_
        refine rxV 1 rfl (by kernel_rfl) rfl (fun _ _ => rfl) (fun _ _ hF => opMove rfl (hF.ev 6 rfl)) (kA rfl) (by decide) (v := (.pointer (some ⟨g, 0, none⟩))) ?_
        refine rxV 2 rfl (by kernel_rfl) rfl (fun _ _ => rfl) (fun _ _ hF => opNilCheck rfl (hF.ev 0 rfl)) (kM [false, true, true, true, true, true, true, true] rfl rfl) (by decide) (v := (.pointer (some ⟨g, 0, none⟩))) ?_
        refine rxV 3 rfl (by kernel_rfl) rfl (fun _ _ => rfl) (fun _ _ hF => opField (off := 2) rfl (hF.ev 0 rfl) (by kernel_rfl)) (kM [false, true, true, true, true, true, true, true] rfl rfl) (by decide) (v := (.pointer (some ⟨g, 2, none⟩))) ?_
        refine rxS (fun w => w.heap[g]? = some (.cells #[(.slice A2 D.is.length c4), (.slice A6 D.kept.length c8), (.slice A10 D.l.length c12), (.int .i64 (D.fuse)), (.bool (D.gone))] 55 (0, 0))) 4 rfl (by kernel_rfl) rfl (fun _ _ => rfl) (hH.blk 0 rfl) (fun _ _ hF hS => opLoadK hS rfl (hF.ev 0 rfl) (by kernel_rfl) rfl) (kM [false, true, true, true, true, true, true, true] rfl rfl) (by decide) (v := (.slice A10 D.l.length c12)) ?_
        refine rxV 5 rfl (by kernel_rfl) rfl (fun _ _ => rfl) (fun _ _ hF => opMove rfl (hF.ev 2 rfl)) (kA rfl) (by decide) (v := (.int .i64 (((i) : Nat) : Int))) ?_
        have hi35 : i < D.l.length := by omega
        obtain ⟨g36, cap37, cur38, hv40, rfl, hB39⟩ := hO16.open (by omega)
        obtain ⟨rfl, rfl⟩ : A10 = some ⟨g36, 0, none⟩ ∧ c12 = cap37 := by injection hv40 with h1 h2 h3; exact ⟨h1, h3⟩
        have := hB39.le
        have hj43 : i < D.l.length := by first | exact hi35 | (simp only [List.length_drop, List.length_take]; omega) | omega
        obtain ⟨x41, hx42⟩ := get_at D.l i hj43
        refine rxV 6 rfl (by kernel_rfl) rfl (fun _ _ => rfl) (fun _ _ hF => opIndex (i := i) (e := 63) (sz := 65) rfl (by kernel_rfl) (by kernel_rfl) (hF.ev 1 rfl) (hF.ev 0 rfl) rfl hi35) (kM [false, false, true, true, true, true, true, true, true] rfl rfl) (by decide) (v := (.pointer (some ⟨g36, 0 + i * 65, none⟩))) ?_
        refine rxV 7 rfl (by kernel_rfl) rfl (fun _ _ => rfl) (fun _ _ hF => opField (off := 0) rfl (hF.ev 0 rfl) (by kernel_rfl)) (kM [false, true, true, true, true, true, true, true] rfl rfl) (by decide) (v := (.pointer (some ⟨g36, 0 + i * 65 + 0, none⟩))) ?_
        refine rxS (fun w => w.heap[g36]? = some (.cells cur38 63 (0, 0))) 8 rfl (by kernel_rfl) rfl (fun _ _ => rfl) (hH.blk 3 rfl) (fun _ _ hF hS => opLoadT (C := (cNat .i64)) (y := x41.1) rfl (hF.ev 0 rfl) (by kernel_rfl) ((hB39.holdsL hS) i _ hx42).fst rfl) (kM [false, true, true, true, true, true, true, true] rfl rfl) (by decide) (v := (.int .i64 (((x41.1) : Nat) : Int))) ?_
        refine rxV 9 rfl (by kernel_rfl) rfl (fun _ _ => rfl) (fun _ _ hF => opMove rfl (hF.ev 7 rfl)) (kA rfl) (by decide) (v := (.pointer (some ⟨g, 0, none⟩))) ?_
        refine rxV 10 rfl (by kernel_rfl) rfl (fun _ _ => rfl) (fun _ _ hF => opNilCheck rfl (hF.ev 0 rfl)) (kM [false, true, true, true, true, true, true, true, true] rfl rfl) (by decide) (v := (.pointer (some ⟨g, 0, none⟩))) ?_
        refine rxV 11 rfl (by kernel_rfl) rfl (fun _ _ => rfl) (fun _ _ hF => opField (off := 2) rfl (hF.ev 0 rfl) (by kernel_rfl)) (kM [false, true, true, true, true, true, true, true, true] rfl rfl) (by decide) (v := (.pointer (some ⟨g, 2, none⟩))) ?_
        refine rxS (fun w => w.heap[g]? = some (.cells #[(.slice A2 D.is.length c4), (.slice A6 D.kept.length c8), (.slice (some ⟨g36, 0, none⟩) D.l.length c12), (.int .i64 (D.fuse)), (.bool (D.gone))] 55 (0, 0))) 12 rfl (by kernel_rfl) rfl (fun _ _ => rfl) (hH.blk 0 rfl) (fun _ _ hF hS => opLoadK hS rfl (hF.ev 0 rfl) (by kernel_rfl) rfl) (kM [false, true, true, true, true, true, true, true, true] rfl rfl) (by decide) (v := (.slice (some ⟨g36, 0, none⟩) D.l.length c12)) ?_
        refine rxV 13 rfl (by kernel_rfl) rfl (fun _ _ => rfl) (fun _ _ hF => opMove rfl (hF.ev 3 rfl)) (kM [true, true, true, false, true, true, true, true, true] rfl rfl) (by decide) (v := (.int .i64 (((i) : Nat) : Int))) ?_
        have hi44 : i < D.l.length := by omega
        have hj47 : i < D.l.length := by first | exact hi44 | (simp only [List.length_drop, List.length_take]; omega) | omega
        obtain ⟨x45, hx46⟩ := get_at D.l i hj47
        refine rxV 14 rfl (by kernel_rfl) rfl (fun _ _ => rfl) (fun _ _ hF => opIndex (i := i) (e := 63) (sz := 65) rfl (by kernel_rfl) (by kernel_rfl) (hF.ev 1 rfl) (hF.ev 0 rfl) rfl hi44) (kM [false, false, true, true, true, true, true, true, true] rfl rfl) (by decide) (v := (.pointer (some ⟨g36, 0 + i * 65, none⟩))) ?_
        refine rxV 15 rfl (by kernel_rfl) rfl (fun _ _ => rfl) (fun _ _ hF => opField (off := 1) rfl (hF.ev 0 rfl) (by kernel_rfl)) (kM [false, true, true, true, true, true, true, true] rfl rfl) (by decide) (v := (.pointer (some ⟨g36, 0 + i * 65 + 1, none⟩))) ?_
        refine rxS (fun w => w.heap[g36]? = some (.cells cur38 63 (0, 0))) 16 rfl (by kernel_rfl) rfl (fun _ _ => rfl) (hH.blk 3 rfl) (fun _ _ hF hS => opLoadT (C := cSec) (y := x45.2) rfl (hF.ev 0 rfl) (by kernel_rfl) ((hB39.holdsL hS) i _ hx46).snd rfl) (kM [false, true, true, true, true, true, true, true] rfl rfl) (by decide) (v := (cSec.val x45.2)) ?_
        have hi48 : x41.1 < D.kept.length := (by have e : x41 = x0 := Option.some.inj (hx42.symm.trans hx0); rw [e]; omega)
        obtain ⟨g49, cap50, cur51, hv53, rfl, hB52⟩ := hO2.open (by omega)
        obtain ⟨rfl, rfl⟩ : A18 = some ⟨g49, 0, none⟩ ∧ c19 = cap50 := by injection hv53 with h1 h2 h3; exact ⟨h1, h3⟩
        have := hB52.le
        have hj56 : x41.1 < S.length := by first | exact hi48 | (simp only [List.length_drop, List.length_take]; omega) | omega
        obtain ⟨x54, hx55⟩ := get_at S x41.1 hj56
        refine rxV 17 rfl (by kernel_rfl) rfl (fun _ _ => rfl) (fun _ _ hF => opIndex (i := x41.1) (e := 58) (sz := 64) rfl (by kernel_rfl) (by kernel_rfl) (hF.ev 2 rfl) (hF.ev 1 rfl) rfl hi48) (kM [true, false, false, true, true, true, true, true] rfl rfl) (by decide) (v := (.pointer (some ⟨g49, 0 + x41.1 * 64, none⟩))) ?_
        refine rx1 18 (by kernel_rfl) ?_
        obtain ⟨cur58, hcs59, hB57⟩ : ∃ cs, putL cur51 (0 + x41.1 * 64) (cSec.enc x45.2).toList = cs ∧ Bk cSec c19 cs (S.set x41.1 x45.2) := ⟨_, rfl, put_at hB52 x41.1 hj56 x45.2⟩
        refine moE0 4 rfl hH rfl (fun _ hF => smStoreT (C := cSec) (z := x45.2) rfl (hF.ev 0 rfl) (hF.ev 1 rfl) rfl (by kernel_rfl) (room_at hB52 hj56) hcs59) trivial rfl (fun _ _ => rfl) (PendOk.go [] (by kernel_rfl) (PendOk.go [] (by kernel_rfl) (PendOk.go [] (by kernel_rfl) (PendOk.go [] (by kernel_rfl) (PendOk.nil _ []))))) ?_
        clear hH
        rintro _ _ w rfl hH
        replace hH : HH w0 (bks E) [[bl g 55 #[(.slice A2 D.is.length c4), (.slice A6 D.kept.length c8), (.slice (some ⟨g36, 0, none⟩) D.l.length c12), (.int .i64 (D.fuse)), (.bool (D.gone))]], E5, E9, [bl g36 63 cur38], [bl g49 58 cur58]] w := hH
        refine ⟨(fun _ hs => by cases hs), ?_⟩
        refine rxEnd (by kernel_rfl) ?_
        refine qxInN ?_
        refine qxThen ?_
        refine cxReg ?_
        refine pxV (v := (.int .i64 (((i + 1) : Nat) : Int))) (fun _ _ hF => opAdd rfl (hF.ev 2 rfl) rfl (wI (by omega) (by omega) (by omega))) rfl (fun _ _ => rfl) (kM [false, false, false, true, true, true, true] rfl rfl) (by decide) ?_
        refine pxV (v := (.int .i64 (((i + 1) : Nat) : Int))) (fun _ _ hF => opMove rfl (hF.ev 0 rfl)) rfl (fun _ _ => rfl) (kM [false, true, true, true, true] rfl rfl) (by decide) ?_
        refine pxEnd ?_
        exact qxRound (i + 1, (S.set x41.1 x45.2), [bl g49 58 cur58]) ⟨hH, (by omega), (hB57.own 58 g49 (by rw [List.length_set]; exact hS)), (by rw [List.length_set]; exact hS), (by rw [hsy, synced_step hx0 hx32, hc34, (Option.some.inj (hx42.symm.trans hx0)), (Option.some.inj (hx46.symm.trans hx0))]; rfl)⟩ (by omega) (slots_at [0, 1, 2, 3, 4] rfl)
      · refine cxSkip ?_
        refine qxInN ?_
        refine qxThen ?_
        refine cxReg ?_
        refine pxV (v := (.int .i64 (((i + 1) : Nat) : Int))) (fun _ _ hF => opAdd rfl (hF.ev 2 rfl) rfl (wI (by omega) (by omega) (by omega))) rfl (fun _ _ => rfl) (kM [false, false, false, true, true, true, true] rfl rfl) (by decide) ?_
        refine pxV (v := (.int .i64 (((i + 1) : Nat) : Int))) (fun _ _ hF => opMove rfl (hF.ev 0 rfl)) rfl (fun _ _ => rfl) (kM [false, true, true, true, true] rfl rfl) (by decide) ?_
        refine pxEnd ?_
        exact qxRound (i + 1, S, E2) ⟨hH, (by omega), hO2, hS, (by rw [hsy, synced_step hx0 hx32, hc34]; rfl)⟩ (by omega) (slots_at [0, 1, 2, 3, 4] rfl)
    · refine pxU rfl (gOff 0 rfl rfl rfl (by decide)) (kA rfl) (by decide) ?_
      refine pxU rfl (gOff 0 rfl rfl rfl (by decide)) (kA rfl) (by decide) ?_
      refine pxU rfl (gOff 0 rfl rfl rfl (by decide)) (kA rfl) (by decide) ?_
      refine pxU rfl (gOff 0 rfl rfl rfl (by decide)) (kA rfl) (by decide) ?_
      refine pxU rfl (gOff 0 rfl rfl rfl (by decide)) (kA rfl) (by decide) ?_
      refine pxU rfl (gOff 0 rfl rfl rfl (by decide)) (kA rfl) (by decide) ?_
      refine pxU rfl (gOff 0 rfl rfl rfl (by decide)) (kA rfl) (by decide) ?_
      refine pxV (v := (.bool false)) (fun _ _ hF => opPickF rfl (hF.ev 0 rfl) rfl) rfl (fun _ _ => rfl) (kM [false, true, true, true, true, true, true] rfl rfl) (by decide) ?_
      refine pxEnd ?_
      refine qxThen ?_
      refine cxF 0 rfl rfl ?_
      refine cxSkip ?_
      refine qxInN ?_
      refine qxThen ?_
      refine cxReg ?_
      refine pxV (v := (.int .i64 (((i + 1) : Nat) : Int))) (fun _ _ hF => opAdd rfl (hF.ev 2 rfl) rfl (wI (by omega) (by omega) (by omega))) rfl (fun _ _ => rfl) (kM [false, false, false, true, true, true, true] rfl rfl) (by decide) ?_
      refine pxV (v := (.int .i64 (((i + 1) : Nat) : Int))) (fun _ _ hF => opMove rfl (hF.ev 0 rfl)) rfl (fun _ _ => rfl) (kM [false, true, true, true, true] rfl rfl) (by decide) ?_
      refine pxEnd ?_
      exact qxRound (i + 1, S, E2) ⟨hH, (by omega), hO2, hS, (by rw [hsy, synced_skip hx0 hg24])⟩ (by omega) (slots_at [0, 1, 2, 3, 4] rfl)
  · have hSe : synced keep 0 D.l D.kept = S := by rw [hsy, List.drop_eq_nil_of_le (by omega)]; rfl
    refine cxExit ?_
    refine qxThenE ?_
    refine qxThenE ?_
    refine qxInE ?_
    refine qxThen ?_
    refine cxSeq ?_
    refine cxReg ?_
    refine pxV (v := (.pointer (some ⟨g, 0, none⟩))) (fun _ _ hF => opMove rfl (hF.ev 5 rfl)) rfl (fun _ _ => rfl) (kM [false, false, false, true, false, true] rfl rfl) (by decide) ?_
    refine pxV (v := (.pointer (some ⟨g, 0, none⟩))) (fun _ _ hF => opMove rfl (hF.ev 2 rfl)) rfl (fun _ _ => rfl) (kA rfl) (by decide) ?_
    refine pxV (v := (.pointer (some ⟨g, 0, none⟩))) (fun _ _ hF => opMove rfl (hF.ev 3 rfl)) rfl (fun _ _ => rfl) (kA rfl) (by decide) ?_
    refine pxV (v := (.slice A18 D.kept.length c19)) (fun _ _ hF => opMove rfl (hF.ev 3 rfl)) rfl (fun _ _ => rfl) (kA rfl) (by decide) ?_
    refine pxM hH (fun _ hF => smLit0 (e := 58) rfl (by kernel_rfl) (by kernel_rfl)) trivial rfl (fun _ _ => rfl) (kA rfl) (by decide) ?_
    clear hH
    rintro _ _ w ⟨g60, rfl, rfl⟩ hH
    replace hH : HH w0 (bks E) [[bl g 55 #[(.slice A2 D.is.length c4), (.slice A6 D.kept.length c8), (.slice A10 D.l.length c12), (.int .i64 (D.fuse)), (.bool (D.gone))]], E5, E9, E13, E2, [bl g60 58 #[]]] w := hH
    refine pxV (v := (.slice A18 D.kept.length c19)) (fun _ _ hF => opMove rfl (hF.ev 5 rfl)) rfl (fun _ _ => rfl) (kM [true, true, true, true, true, false, true] rfl rfl) (by decide) ?_
    refine pxE 5 hH rfl (fun _ hF => smAppT (C := cSec) (l := []) (m := S) (e := 58) (z := (cSec.val (fun _ => 0))) (by_ := 64) rfl (by kernel_rfl) (by kernel_rfl) rfl (ltb rfl) (hF.ev 1 rfl) ((Bk.lit0 (C := cSec)).own 58 g60 rfl) (hF.ev 0 rfl) hS hO2.nilA (by rw [List.length_nil]; unfold maxLen; omega) (by rw [List.length_nil]; omega)) (hO2.vuAt (hH.has 4 rfl)) rfl (fun _ _ => rfl) (kM [false, false, true, true, true, true, true] rfl rfl) (by decide) ?_
    clear hH
    rintro v63 E64 w ⟨hO65, _⟩ hH
    replace hH : HH w0 (bks E) [[bl g 55 #[(.slice A2 D.is.length c4), (.slice A6 D.kept.length c8), (.slice A10 D.l.length c12), (.int .i64 (D.fuse)), (.bool (D.gone))]], E5, E9, E13, E2, E64] w := hH
    replace hO65 : OwnT cSec 58 v63 S E64 := hO65
    obtain ⟨A61, c62, rfl⟩ := hO65.slice
    refine pxV (v := (.pointer (some ⟨g, 0, none⟩))) (fun _ _ hF => opNilCheck rfl (hF.ev 4 rfl)) rfl (fun _ _ => rfl) (kM [true, true, true, true, false, true] rfl rfl) (by decide) ?_
    refine pxV (v := (.pointer (some ⟨g, 0, none⟩))) (fun _ _ hF => opField (off := 0) rfl (hF.ev 0 rfl) (by kernel_rfl)) rfl (fun _ _ => rfl) (kM [false, true, true, true, true, true] rfl rfl) (by decide) ?_
    refine pxE0 0 hH rfl (fun _ hF => smStore (v := (.slice A18 D.kept.length c19)) rfl (hF.ev 0 rfl) (hF.ev 2 rfl) (by kernel_rfl) (ltb rfl) rfl rfl) trivial rfl (fun _ _ => rfl) ?_
    clear hH
    rintro _ _ w rfl hH
    replace hH : HH w0 (bks E) [[bl g 55 #[(.slice A18 D.kept.length c19), (.slice A6 D.kept.length c8), (.slice A10 D.l.length c12), (.int .i64 (D.fuse)), (.bool (D.gone))]], E5, E9, E13, E2, E64] w := hH
    refine pxV (v := (.pointer (some ⟨g, 0, none⟩))) (fun _ _ hF => opNilCheck rfl (hF.ev 4 rfl)) rfl (fun _ _ => rfl) (kM [false, true, false, true, false, true] rfl rfl) (by decide) ?_
    refine pxV (v := (.pointer (some ⟨g, 1, none⟩))) (fun _ _ hF => opField (off := 1) rfl (hF.ev 0 rfl) (by kernel_rfl)) rfl (fun _ _ => rfl) (kM [false, true, true, true] rfl rfl) (by decide) ?_
    refine pxE0 0 hH rfl (fun _ hF => smStore (v := (.slice A61 S.length c62)) rfl (hF.ev 0 rfl) (hF.ev 1 rfl) (by kernel_rfl) (ltb rfl) rfl rfl) trivial rfl (fun _ _ => rfl) ?_
    clear hH
    rintro _ _ w rfl hH
    replace hH : HH w0 (bks E) [[bl g 55 #[(.slice A18 D.kept.length c19), (.slice A61 S.length c62), (.slice A10 D.l.length c12), (.int .i64 (D.fuse)), (.bool (D.gone))]], E5, E9, E13, E2, E64] w := hH
    refine pxV (v := (.pointer (some ⟨g, 0, none⟩))) (fun _ _ hF => opNilCheck rfl (hF.ev 2 rfl)) rfl (fun _ _ => rfl) (kM [false, false, false, true] rfl rfl) (by decide) ?_
    refine pxV (v := (.pointer (some ⟨g, 2, none⟩))) (fun _ _ hF => opField (off := 2) rfl (hF.ev 0 rfl) (by kernel_rfl)) rfl (fun _ _ => rfl) (kM [false, true] rfl rfl) (by decide) ?_
    refine pxE0 0 hH rfl (fun _ hF => smStore (v := (.slice none 0 0)) rfl (hF.ev 0 rfl) rfl (by kernel_rfl) (ltb rfl) rfl rfl) trivial rfl (fun _ _ => rfl) ?_
    clear hH
    rintro _ _ w rfl hH
    replace hH : HH w0 (bks E) [[bl g 55 #[(.slice A18 D.kept.length c19), (.slice A61 S.length c62), (.slice none 0 0), (.int .i64 (D.fuse)), (.bool (D.gone))]], E5, E9, E13, E2, E64] w := hH
    refine pxEnd ?_
    refine qxThen ?_
    refine cxReg ?_
    refine pxV (v := (.pointer (some ⟨g, 0, none⟩))) (fun _ _ hF => opMove rfl (hF.ev 1 rfl)) rfl (fun _ _ => rfl) (kM [false, true] rfl rfl) (by decide) ?_
    refine pxV (v := (.pointer (some ⟨g, 0, none⟩))) (fun _ _ hF => opMove rfl (hF.ev 1 rfl)) rfl (fun _ _ => rfl) (kM [true, false] rfl rfl) (by decide) ?_
    refine pxV (v := (.pointer (some ⟨g, 0, none⟩))) (fun _ _ hF => opNilCheck rfl (hF.ev 1 rfl)) rfl (fun _ _ => rfl) (kM [true, false] rfl rfl) (by decide) ?_
    refine pxV (v := (.pointer (some ⟨g, 4, none⟩))) (fun _ _ hF => opField (off := 4) rfl (hF.ev 0 rfl) (by kernel_rfl)) rfl (fun _ _ => rfl) (kM [false, true] rfl rfl) (by decide) ?_
    refine pxE0 0 hH rfl (fun _ hF => smStore (v := (.bool false)) rfl (hF.ev 0 rfl) rfl (by kernel_rfl) (ltb rfl) rfl rfl) trivial rfl (fun _ _ => rfl) ?_
    clear hH
    rintro _ _ w rfl hH
    replace hH : HH w0 (bks E) [[bl g 55 #[(.slice A18 D.kept.length c19), (.slice A61 S.length c62), (.slice none 0 0), (.int .i64 (D.fuse)), (.bool false)]], E5, E9, E13, E2, E64] w := hH
    refine pxV (v := (.pointer (some ⟨g, 0, none⟩))) (fun _ _ hF => opNilCheck rfl (hF.ev 1 rfl)) rfl (fun _ _ => rfl) (kM [false, false] rfl rfl) (by decide) ?_
    refine pxV (v := (.pointer (some ⟨g, 3, none⟩))) (fun _ _ hF => opField (off := 3) rfl (hF.ev 0 rfl) (by kernel_rfl)) rfl (fun _ _ => rfl) (kM [false] rfl rfl) (by decide) ?_
    refine pxE0 0 hH rfl (fun _ hF => smStore (v := (.int .i64 (-1))) rfl (hF.ev 0 rfl) rfl (by kernel_rfl) (ltb rfl) rfl rfl) trivial rfl (fun _ _ => rfl) ?_
    clear hH
    rintro _ _ w rfl hH
    replace hH : HH w0 (bks E) [[bl g 55 #[(.slice A18 D.kept.length c19), (.slice A61 S.length c62), (.slice none 0 0), (.int .i64 (-1)), (.bool false)]], E5, E9, E13, E2, E64] w := hH
    refine pxEnd ?_
    refine qxEnd0 rfl ?_
    have he : D.crash keep = ⟨S, S, [], -1, false⟩ := by unfold Dr.crash; rw [hSe]
    replace hH := HH.pad hH 1
    replace hH : HH w0 (bks E) [[bl g 55 #[(.slice A18 D.kept.length c19), (.slice A61 S.length c62), (.slice none 0 0), (.int .i64 (-1)), (.bool false)]], E2, E64, []] w := HH.sel hH [0, 4, 5, 6] rfl (by decide)
    obtain ⟨E66, hE67, hD68⟩ : ∃ E, E = ([[bl g 55 #[(.slice A18 D.kept.length c19), (.slice A61 S.length c62), (.slice none 0 0), (.int .i64 (-1)), (.bool false)]], E2, E64, []] : List Hl).flatten ∧ DrAt g (⟨S, S, [], -1, false⟩ : Dr) E := ⟨_, rfl, (he ▸ crashR_ok hok keep), _, _, _, _, _, _, _, _, _, _, _, _, rfl, hO2, hO65, (OwnT.nil cChg 63)⟩
    replace hH : HH w0 (bks E) [E66] w := hH.cast (by rw [hE67]; simp)
    exact ⟨_, _, rfl, ⟨rfl, by rw [he]; exact hD68⟩, hH.out1 [true] rfl⟩
end Go.Proofs.Ytnalkphocllhbaa
