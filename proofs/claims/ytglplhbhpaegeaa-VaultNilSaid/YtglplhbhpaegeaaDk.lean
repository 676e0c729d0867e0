/- The program's disk: what lies in memory, and what its calls do (mkdk.py writes this text). -/
import Derived.Test.YtglplhbhpaegeaaVc
import Derived.Test.YtglplhbhpaegeaaTy
namespace Go.Proofs.Ytglplhbhpaegeaa
open Go Go.RowKit
set_option maxRecDepth 100000

abbrev Sec := Nat → UInt8
def cSec : Cod Sec := cArr 64
def cChg : Cod (Nat × Sec) := cPair (cNat .i64) cSec
structure Dk where
  now : List Sec
  syn : List Sec
  uns : List (Nat × Sec)
  down : Bool
  fused : Bool
  left : Int
theorem le0 : (0 : Int) ≤ 9223372036854775807 := by decide
structure Dk.Ok (D : Dk) : Prop where
  nn : D.syn.length = D.now.length
  sz : D.now.length ≤ 4000
  uns : ∀ c ∈ D.uns, c.1 < D.now.length
  left : D.fused = true → 0 ≤ D.left
  max : D.left ≤ 9223372036854775807
/-- A disk in memory. -/
structure DkAt (g : Nat) (D : Dk) (E : Hl) : Prop where
  ok : D.Ok
  at' : ∃ A1 n1 c1 E1 A2 n2 c2 E2 A3 n3 c3 E3, E = ([[bl g 55 #[.slice A1 n1 c1, .slice A2 n2 c2, .slice A3 n3 c3, .bool D.down, .bool D.fused, .int .i64 D.left]], E1, E2, E3] : List Hl).flatten ∧
    OwnT cSec 71 (.slice A1 n1 c1) D.now E1 ∧ OwnT cSec 71 (.slice A2 n2 c2) D.syn E2 ∧ OwnT cChg 73 (.slice A3 n3 c3) D.uns E3

/-- Whether the power lasts for one more, and what is then. -/
def Dk.lasts (D : Dk) : Bool × Dk := if D.fused = false then (true, D) else if D.left = 0 then (false, { D with down := true }) else (true, { D with left := D.left - 1 })
theorem Dk.lasts_ok {D : Dk} (h : D.Ok) : D.lasts.2.Ok := by
  unfold Dk.lasts
  split
  · exact h
  · rename_i hf
    split
    · exact ⟨h.nn, h.sz, h.uns, h.left, h.max⟩
    · rename_i h0
      have h1 := h.left (by simpa using hf)
      have h2 := h.max
      exact ⟨h.nn, h.sz, h.uns, fun _ => by show 0 ≤ D.left - 1; omega, by show D.left - 1 ≤ _; omega⟩
theorem ok_of {D D' : Dk} {b : Bool} (h : D.Ok) (e : D.lasts = (b, D')) : D'.Ok := by
  have := Dk.lasts_ok h
  rw [e] at this; exact this

set_option maxHeartbeats 8000000 in
theorem lasts_c (g : Nat) (D : Dk) (E : Hl) (hD : DkAt g D E) : Does Try.prog 35 #[(.pointer (some ⟨g, 0, none⟩))] E (fun _ => True) (fun v E' => v = .bool D.lasts.1 ∧ DkAt g D.lasts.2 E') := by
  refine does_of (fn := Try.f35) Try.func35 rfl Try.ntmps35 (Nat.le_of_ble_eq_true rfl) rfl ?_
  intro w0 hH hR
  have hok := hD.ok; have hmax := hok.max
  obtain ⟨A1, n2, c3, E4, A5, n6, c7, E8, A9, n10, c11, E12, hE16, hO13, hO14, hO15⟩ := hD.at'
  obtain rfl : n2 = D.now.length := hO13.len
  obtain rfl : n6 = D.syn.length := hO14.len
  obtain rfl : n10 = D.uns.length := hO15.len
  replace hH : HH w0 (bks E) [[bl g 55 #[(.slice A1 D.now.length c3), (.slice A5 D.syn.length c7), (.slice A9 D.uns.length c11), (.bool (D.down)), (.bool (D.fused)), (.int .i64 (D.left))]], E4, E8, E12] w0 := hH.cast (by rw [hE16]; simp)
  refine cxSeq ?_
  refine cxReg ?_
  refine pxV (v := (.bool false)) (fun _ _ hF => opAssign rfl rfl) rfl (fun _ _ => rfl) (kA rfl) (by decide) ?_
  refine pxEnd ?_
  refine qxThen ?_
  refine cxSeq ?_
  refine cxSeq ?_
  refine cxReg ?_
  refine pxV (v := (.pointer (some ⟨g, 0, none⟩))) (fun _ _ hF => opMove rfl (hF.ev 1 rfl)) rfl (fun _ _ => rfl) (kM [false, true] rfl rfl) (by decide) ?_
  refine pxV (v := (.pointer (some ⟨g, 0, none⟩))) (fun _ _ hF => opNilCheck rfl (hF.ev 0 rfl)) rfl (fun _ _ => rfl) (kM [false, true] rfl rfl) (by decide) ?_
  refine pxV (v := (.pointer (some ⟨g, 4, none⟩))) (fun _ _ hF => opField (off := 4) rfl (hF.ev 0 rfl) (by kernel_rfl)) rfl (fun _ _ => rfl) (kM [false, true] rfl rfl) (by decide) ?_
  refine pxS (v := (.bool (D.fused))) (fun w => w.heap[g]? = some (.cells #[(.slice A1 D.now.length c3), (.slice A5 D.syn.length c7), (.slice A9 D.uns.length c11), (.bool (D.down)), (.bool (D.fused)), (.int .i64 (D.left))] 55 (0, 0))) (hH.blk 0 rfl) (fun _ _ hF hS => opLoadK hS rfl (hF.ev 0 rfl) (by kernel_rfl) rfl) rfl (fun _ _ => rfl) (kM [false, true] rfl rfl) (by decide) ?_
  refine pxV (v := (.bool (!(D.fused)))) (fun _ _ hF => opNot rfl (hF.ev 0 rfl) rfl) rfl (fun _ _ => rfl) (kM [false, true] rfl rfl) (by decide) ?_
  refine pxEnd ?_
  refine qxThen ?_
  refine cxB 0 rfl rfl (fun hc17 => ?_) (fun hc17 => ?_)
  · replace hc17 : D.fused = false := by simpa using hc17
    refine cxSeq ?_
    refine cxReg ?_
    refine pxV (v := (.bool true)) (fun _ _ hF => opAssign rfl rfl) rfl (fun _ _ => rfl) (kM [false, false] rfl rfl) (by decide) ?_
    refine pxEnd ?_
    refine qxThen ?_
    refine cxRet ?_
    refine qxThenR ?_
    refine qxRet1 0 rfl rfl ?_
    have he : D.lasts = (true, ⟨D.now, D.syn, D.uns, D.down, D.fused, D.left⟩) := by unfold Dk.lasts; rw [if_pos hc17]
    obtain ⟨E18, hE19, hD⟩ : ∃ E, E = ([[bl g 55 #[(.slice A1 D.now.length c3), (.slice A5 D.syn.length c7), (.slice A9 D.uns.length c11), (.bool (D.down)), (.bool (D.fused)), (.int .i64 (D.left))]], E4, E8, E12] : List Hl).flatten ∧ DkAt g (⟨D.now, D.syn, D.uns, D.down, D.fused, D.left⟩) E := ⟨_, rfl, ok_of hok he, _, _, _, _, _, _, _, _, _, _, _, _, rfl, hO13, hO14, hO15⟩
    replace hH : HH w0 (bks E) [E18] w0 := hH.cast (by rw [hE19]; simp)
    exact ⟨_, _, rfl, ⟨by rw [he], by rw [he]; exact hD⟩, hH.out1 [true] rfl⟩
  · replace hc17 : D.fused = true := by simpa using hc17
    refine cxSkip ?_
    refine qxThen ?_
    refine cxSeq ?_
    refine cxSeq ?_
    refine cxReg ?_
    refine pxV (v := (.pointer (some ⟨g, 0, none⟩))) (fun _ _ hF => opMove rfl (hF.ev 1 rfl)) rfl (fun _ _ => rfl) (kM [false, true] rfl rfl) (by decide) ?_
    refine pxV (v := (.pointer (some ⟨g, 0, none⟩))) (fun _ _ hF => opNilCheck rfl (hF.ev 0 rfl)) rfl (fun _ _ => rfl) (kM [false, true] rfl rfl) (by decide) ?_
    refine pxV (v := (.pointer (some ⟨g, 5, none⟩))) (fun _ _ hF => opField (off := 5) rfl (hF.ev 0 rfl) (by kernel_rfl)) rfl (fun _ _ => rfl) (kM [false, true] rfl rfl) (by decide) ?_
    refine pxS (v := (.int .i64 (D.left))) (fun w => w.heap[g]? = some (.cells #[(.slice A1 D.now.length c3), (.slice A5 D.syn.length c7), (.slice A9 D.uns.length c11), (.bool (D.down)), (.bool (D.fused)), (.int .i64 (D.left))] 55 (0, 0))) (hH.blk 0 rfl) (fun _ _ hF hS => opLoadK hS rfl (hF.ev 0 rfl) (by kernel_rfl) rfl) rfl (fun _ _ => rfl) (kM [false, true] rfl rfl) (by decide) ?_
    refine pxV (v := (.bool (decide ((D.left) = 0)))) (fun _ _ hF => opEqI rfl (hF.ev 0 rfl) rfl rfl) rfl (fun _ _ => rfl) (kM [false, true] rfl rfl) (by decide) ?_
    refine pxEnd ?_
    refine qxThen ?_
    refine cxP 0 rfl rfl (fun hc20 => ?_) (fun hc20 => ?_)
    · refine cxSeq ?_
      refine cxReg ?_
      refine pxV (v := (.pointer (some ⟨g, 0, none⟩))) (fun _ _ hF => opMove rfl (hF.ev 1 rfl)) rfl (fun _ _ => rfl) (kM [false, false] rfl rfl) (by decide) ?_
      refine pxV (v := (.pointer (some ⟨g, 0, none⟩))) (fun _ _ hF => opNilCheck rfl (hF.ev 0 rfl)) rfl (fun _ _ => rfl) (kM [false] rfl rfl) (by decide) ?_
      refine pxV (v := (.pointer (some ⟨g, 3, none⟩))) (fun _ _ hF => opField (off := 3) rfl (hF.ev 0 rfl) (by kernel_rfl)) rfl (fun _ _ => rfl) (kM [false] rfl rfl) (by decide) ?_
      refine pxE0 0 hH rfl (fun _ hF => smStore (v := (.bool true)) rfl (hF.ev 0 rfl) rfl (by kernel_rfl) (ltb rfl) rfl rfl) trivial rfl (fun _ _ => rfl) ?_
      clear hH
      rintro _ _ w rfl hH
      replace hH : HH w0 (bks E) [[bl g 55 #[(.slice A1 D.now.length c3), (.slice A5 D.syn.length c7), (.slice A9 D.uns.length c11), (.bool true), (.bool (D.fused)), (.int .i64 (D.left))]], E4, E8, E12] w := hH
      refine pxEnd ?_
      refine qxThen ?_
      refine cxSeq ?_
      refine cxReg ?_
      refine pxV (v := (.bool false)) (fun _ _ hF => opAssign rfl rfl) rfl (fun _ _ => rfl) (kM [false] rfl rfl) (by decide) ?_
      refine pxEnd ?_
      refine qxThen ?_
      refine cxRet ?_
      refine qxThenR ?_
      refine qxRet1 0 rfl rfl ?_
      have he : D.lasts = (false, ⟨D.now, D.syn, D.uns, true, D.fused, D.left⟩) := by unfold Dk.lasts; rw [if_neg (by simp [hc17]), if_pos hc20]
      obtain ⟨E21, hE22, hD⟩ : ∃ E, E = ([[bl g 55 #[(.slice A1 D.now.length c3), (.slice A5 D.syn.length c7), (.slice A9 D.uns.length c11), (.bool true), (.bool (D.fused)), (.int .i64 (D.left))]], E4, E8, E12] : List Hl).flatten ∧ DkAt g (⟨D.now, D.syn, D.uns, true, D.fused, D.left⟩) E := ⟨_, rfl, ok_of hok he, _, _, _, _, _, _, _, _, _, _, _, _, rfl, hO13, hO14, hO15⟩
      replace hH : HH w0 (bks E) [E21] w := hH.cast (by rw [hE22]; simp)
      exact ⟨_, _, rfl, ⟨by rw [he], by rw [he]; exact hD⟩, hH.out1 [true] rfl⟩
    · have hl := hok.left hc17
      refine cxSkip ?_
      refine qxThen ?_
      refine cxSeq ?_
      refine cxReg ?_
      refine pxV (v := (.pointer (some ⟨g, 0, none⟩))) (fun _ _ hF => opMove rfl (hF.ev 1 rfl)) rfl (fun _ _ => rfl) (kM [false, false] rfl rfl) (by decide) ?_
      refine pxV (v := (.pointer (some ⟨g, 0, none⟩))) (fun _ _ hF => opNilCheck rfl (hF.ev 0 rfl)) rfl (fun _ _ => rfl) (kA rfl) (by decide) ?_
      refine pxV (v := (.pointer (some ⟨g, 5, none⟩))) (fun _ _ hF => opField (off := 5) rfl (hF.ev 0 rfl) (by kernel_rfl)) rfl (fun _ _ => rfl) (kM [false, true] rfl rfl) (by decide) ?_
      refine pxS (v := (.int .i64 (D.left))) (fun w => w.heap[g]? = some (.cells #[(.slice A1 D.now.length c3), (.slice A5 D.syn.length c7), (.slice A9 D.uns.length c11), (.bool (D.down)), (.bool (D.fused)), (.int .i64 (D.left))] 55 (0, 0))) (hH.blk 0 rfl) (fun _ _ hF hS => opLoadK hS rfl (hF.ev 0 rfl) (by kernel_rfl) rfl) rfl (fun _ _ => rfl) (kM [false, true] rfl rfl) (by decide) ?_
      refine pxV (v := (.int .i64 ((D.left) - 1))) (fun _ _ hF => opSub rfl (hF.ev 0 rfl) rfl (wI rfl (by omega) (by omega))) rfl (fun _ _ => rfl) (kM [false, true] rfl rfl) (by decide) ?_
      refine pxV (v := (.pointer (some ⟨g, 0, none⟩))) (fun _ _ hF => opNilCheck rfl (hF.ev 1 rfl)) rfl (fun _ _ => rfl) (kM [true, false] rfl rfl) (by decide) ?_
      refine pxV (v := (.pointer (some ⟨g, 5, none⟩))) (fun _ _ hF => opField (off := 5) rfl (hF.ev 0 rfl) (by kernel_rfl)) rfl (fun _ _ => rfl) (kM [false, true] rfl rfl) (by decide) ?_
      refine pxE0 0 hH rfl (fun _ hF => smStore (v := (.int .i64 ((D.left) - 1))) rfl (hF.ev 0 rfl) (hF.ev 1 rfl) (by kernel_rfl) (ltb rfl) rfl rfl) trivial rfl (fun _ _ => rfl) ?_
      clear hH
      rintro _ _ w rfl hH
      replace hH : HH w0 (bks E) [[bl g 55 #[(.slice A1 D.now.length c3), (.slice A5 D.syn.length c7), (.slice A9 D.uns.length c11), (.bool (D.down)), (.bool (D.fused)), (.int .i64 ((D.left) - 1))]], E4, E8, E12] w := hH
      refine pxEnd ?_
      refine qxThen ?_
      refine cxSeq ?_
      refine cxReg ?_
      refine pxV (v := (.bool true)) (fun _ _ hF => opAssign rfl rfl) rfl (fun _ _ => rfl) (kM [false, false] rfl rfl) (by decide) ?_
      refine pxEnd ?_
      refine qxThen ?_
      refine cxRet ?_
      refine qxRet1 0 rfl rfl ?_
      have he : D.lasts = (true, ⟨D.now, D.syn, D.uns, D.down, D.fused, (D.left) - 1⟩) := by unfold Dk.lasts; rw [if_neg (by simp [hc17]), if_neg hc20]
      obtain ⟨E23, hE24, hD⟩ : ∃ E, E = ([[bl g 55 #[(.slice A1 D.now.length c3), (.slice A5 D.syn.length c7), (.slice A9 D.uns.length c11), (.bool (D.down)), (.bool (D.fused)), (.int .i64 ((D.left) - 1))]], E4, E8, E12] : List Hl).flatten ∧ DkAt g (⟨D.now, D.syn, D.uns, D.down, D.fused, (D.left) - 1⟩) E := ⟨_, rfl, ok_of hok he, _, _, _, _, _, _, _, _, _, _, _, _, rfl, hO13, hO14, hO15⟩
      replace hH : HH w0 (bks E) [E23] w := hH.cast (by rw [hE24]; simp)
      exact ⟨_, _, rfl, ⟨by rw [he], by rw [he]; exact hD⟩, hH.out1 [true] rfl⟩

set_option maxHeartbeats 8000000 in
theorem sectors_c (g : Nat) (D : Dk) (E : Hl) (hD : DkAt g D E) : Does Try.prog 23 #[(.pointer (some ⟨g, 0, none⟩))] E (fun _ => True) (fun v E' => v = .int .i64 (D.now.length : Int) ∧ DkAt g D E') := by
  refine does_of (fn := Try.f23) Try.func23 rfl Try.ntmps23 (Nat.le_of_ble_eq_true rfl) rfl ?_
  intro w0 hH hR
  have hok := hD.ok
  obtain ⟨A1, n2, c3, E4, A5, n6, c7, E8, A9, n10, c11, E12, hE16, hO13, hO14, hO15⟩ := hD.at'
  obtain rfl : n2 = D.now.length := hO13.len
  obtain rfl : n6 = D.syn.length := hO14.len
  obtain rfl : n10 = D.uns.length := hO15.len
  replace hH : HH w0 (bks E) [[bl g 55 #[(.slice A1 D.now.length c3), (.slice A5 D.syn.length c7), (.slice A9 D.uns.length c11), (.bool (D.down)), (.bool (D.fused)), (.int .i64 (D.left))]], E4, E8, E12] w0 := hH.cast (by rw [hE16]; simp)
  refine cxSeq ?_
  refine cxReg ?_
  refine pxV (v := (.int .i64 0)) (fun _ _ hF => opAssign rfl rfl) rfl (fun _ _ => rfl) (kA rfl) (by decide) ?_
  refine pxEnd ?_
  refine qxThen ?_
  refine cxSeq ?_
  refine cxSeq ?_
  refine cxReg ?_
  refine pxV (v := (.pointer (some ⟨g, 0, none⟩))) (fun _ _ hF => opMove rfl (hF.ev 1 rfl)) rfl (fun _ _ => rfl) (kM [false, true] rfl rfl) (by decide) ?_
  refine pxV (v := (.bool false)) (fun _ _ hF => opEqNil (e := 55) rfl (by kernel_rfl) (hF.ev 0 rfl) rfl rfl) rfl (fun _ _ => rfl) (kM [false, true] rfl rfl) (by decide) ?_
  refine pxEnd ?_
  refine qxThen ?_
  refine cxF 0 rfl rfl ?_
  refine cxSkip ?_
  refine qxThen ?_
  refine cxSeq ?_
  refine cxReg ?_
  refine pxV (v := (.pointer (some ⟨g, 0, none⟩))) (fun _ _ hF => opMove rfl (hF.ev 1 rfl)) rfl (fun _ _ => rfl) (kM [false, false] rfl rfl) (by decide) ?_
  refine pxV (v := (.pointer (some ⟨g, 0, none⟩))) (fun _ _ hF => opNilCheck rfl (hF.ev 0 rfl)) rfl (fun _ _ => rfl) (kM [false] rfl rfl) (by decide) ?_
  refine pxV (v := (.pointer (some ⟨g, 0, none⟩))) (fun _ _ hF => opField (off := 0) rfl (hF.ev 0 rfl) (by kernel_rfl)) rfl (fun _ _ => rfl) (kM [false] rfl rfl) (by decide) ?_
  refine pxS (v := (.slice A1 D.now.length c3)) (fun w => w.heap[g]? = some (.cells #[(.slice A1 D.now.length c3), (.slice A5 D.syn.length c7), (.slice A9 D.uns.length c11), (.bool (D.down)), (.bool (D.fused)), (.int .i64 (D.left))] 55 (0, 0))) (hH.blk 0 rfl) (fun _ _ hF hS => opLoadK hS rfl (hF.ev 0 rfl) (by kernel_rfl) rfl) rfl (fun _ _ => rfl) (kM [false] rfl rfl) (by decide) ?_
  refine pxV (v := (.int .i64 (((D.now.length) : Nat) : Int))) (fun _ _ hF => opLen (e := 71) rfl (by kernel_rfl) (hF.ev 0 rfl)) rfl (fun _ _ => rfl) (kM [false] rfl rfl) (by decide) ?_
  refine pxV (v := (.int .i64 (((D.now.length) : Nat) : Int))) (fun _ _ hF => opAssign rfl (hF.ev 0 rfl)) rfl (fun _ _ => rfl) (kM [false] rfl rfl) (by decide) ?_
  refine pxEnd ?_
  refine qxThen ?_
  refine cxRet ?_
  refine qxRet1 0 rfl rfl ?_
  obtain ⟨E17, hE18, hD⟩ : ∃ E, E = ([[bl g 55 #[(.slice A1 D.now.length c3), (.slice A5 D.syn.length c7), (.slice A9 D.uns.length c11), (.bool (D.down)), (.bool (D.fused)), (.int .i64 (D.left))]], E4, E8, E12] : List Hl).flatten ∧ DkAt g D E := ⟨_, rfl, hok, _, _, _, _, _, _, _, _, _, _, _, _, rfl, hO13, hO14, hO15⟩
  replace hH : HH w0 (bks E) [E17] w0 := hH.cast (by rw [hE18]; simp)
  exact ⟨_, _, rfl, ⟨rfl, hD⟩, hH.out1 [true] rfl⟩

set_option maxHeartbeats 8000000 in
theorem unsynced_c (g : Nat) (D : Dk) (E : Hl) (hD : DkAt g D E) : Does Try.prog 18 #[(.pointer (some ⟨g, 0, none⟩))] E (fun _ => True) (fun v E' => v = .int .i64 (D.uns.length : Int) ∧ DkAt g D E') := by
  refine does_of (fn := Try.f18) Try.func18 rfl Try.ntmps18 (Nat.le_of_ble_eq_true rfl) rfl ?_
  intro w0 hH hR
  have hok := hD.ok
  obtain ⟨A1, n2, c3, E4, A5, n6, c7, E8, A9, n10, c11, E12, hE16, hO13, hO14, hO15⟩ := hD.at'
  obtain rfl : n2 = D.now.length := hO13.len
  obtain rfl : n6 = D.syn.length := hO14.len
  obtain rfl : n10 = D.uns.length := hO15.len
  replace hH : HH w0 (bks E) [[bl g 55 #[(.slice A1 D.now.length c3), (.slice A5 D.syn.length c7), (.slice A9 D.uns.length c11), (.bool (D.down)), (.bool (D.fused)), (.int .i64 (D.left))]], E4, E8, E12] w0 := hH.cast (by rw [hE16]; simp)
  refine cxSeq ?_
  refine cxReg ?_
  refine pxV (v := (.int .i64 0)) (fun _ _ hF => opAssign rfl rfl) rfl (fun _ _ => rfl) (kA rfl) (by decide) ?_
  refine pxEnd ?_
  refine qxThen ?_
  refine cxSeq ?_
  refine cxSeq ?_
  refine cxReg ?_
  refine pxV (v := (.pointer (some ⟨g, 0, none⟩))) (fun _ _ hF => opMove rfl (hF.ev 1 rfl)) rfl (fun _ _ => rfl) (kM [false, true] rfl rfl) (by decide) ?_
  refine pxV (v := (.bool false)) (fun _ _ hF => opEqNil (e := 55) rfl (by kernel_rfl) (hF.ev 0 rfl) rfl rfl) rfl (fun _ _ => rfl) (kM [false, true] rfl rfl) (by decide) ?_
  refine pxEnd ?_
  refine qxThen ?_
  refine cxF 0 rfl rfl ?_
  refine cxSkip ?_
  refine qxThen ?_
  refine cxSeq ?_
  refine cxReg ?_
  refine pxV (v := (.pointer (some ⟨g, 0, none⟩))) (fun _ _ hF => opMove rfl (hF.ev 1 rfl)) rfl (fun _ _ => rfl) (kM [false, false] rfl rfl) (by decide) ?_
  refine pxV (v := (.pointer (some ⟨g, 0, none⟩))) (fun _ _ hF => opNilCheck rfl (hF.ev 0 rfl)) rfl (fun _ _ => rfl) (kM [false] rfl rfl) (by decide) ?_
  refine pxV (v := (.pointer (some ⟨g, 2, none⟩))) (fun _ _ hF => opField (off := 2) rfl (hF.ev 0 rfl) (by kernel_rfl)) rfl (fun _ _ => rfl) (kM [false] rfl rfl) (by decide) ?_
  refine pxS (v := (.slice A9 D.uns.length c11)) (fun w => w.heap[g]? = some (.cells #[(.slice A1 D.now.length c3), (.slice A5 D.syn.length c7), (.slice A9 D.uns.length c11), (.bool (D.down)), (.bool (D.fused)), (.int .i64 (D.left))] 55 (0, 0))) (hH.blk 0 rfl) (fun _ _ hF hS => opLoadK hS rfl (hF.ev 0 rfl) (by kernel_rfl) rfl) rfl (fun _ _ => rfl) (kM [false] rfl rfl) (by decide) ?_
  refine pxV (v := (.int .i64 (((D.uns.length) : Nat) : Int))) (fun _ _ hF => opLen (e := 73) rfl (by kernel_rfl) (hF.ev 0 rfl)) rfl (fun _ _ => rfl) (kM [false] rfl rfl) (by decide) ?_
  refine pxV (v := (.int .i64 (((D.uns.length) : Nat) : Int))) (fun _ _ hF => opAssign rfl (hF.ev 0 rfl)) rfl (fun _ _ => rfl) (kM [false] rfl rfl) (by decide) ?_
  refine pxEnd ?_
  refine qxThen ?_
  refine cxRet ?_
  refine qxRet1 0 rfl rfl ?_
  obtain ⟨E17, hE18, hD⟩ : ∃ E, E = ([[bl g 55 #[(.slice A1 D.now.length c3), (.slice A5 D.syn.length c7), (.slice A9 D.uns.length c11), (.bool (D.down)), (.bool (D.fused)), (.int .i64 (D.left))]], E4, E8, E12] : List Hl).flatten ∧ DkAt g D E := ⟨_, rfl, hok, _, _, _, _, _, _, _, _, _, _, _, _, rfl, hO13, hO14, hO15⟩
  replace hH : HH w0 (bks E) [E17] w0 := hH.cast (by rw [hE18]; simp)
  exact ⟨_, _, rfl, ⟨rfl, hD⟩, hH.out1 [true] rfl⟩

set_option maxHeartbeats 8000000 in
theorem has_c (g : Nat) (D : Dk) (E : Hl) (hD : DkAt g D E) (at_ n : Int) (h1 : -9223372036854775808 ≤ at_) (h2 : at_ ≤ 9223372036854775807) : Does Try.prog 34 #[(.pointer (some ⟨g, 0, none⟩)), (.int .i64 (at_)), (.int .i64 (n))] E (fun _ => True) (fun v E' => v = .bool (decide (0 ≤ at_ ∧ 0 ≤ n ∧ n ≤ (D.now.length : Int) - at_)) ∧ DkAt g D E') := by
  refine does_of (fn := Try.f34) Try.func34 rfl Try.ntmps34 (Nat.le_of_ble_eq_true rfl) rfl ?_
  intro w0 hH hR
  have hok := hD.ok; have hsz := hok.sz; have hnn := hok.nn
  obtain ⟨A1, n2, c3, E4, A5, n6, c7, E8, A9, n10, c11, E12, hE16, hO13, hO14, hO15⟩ := hD.at'
  obtain rfl : n2 = D.now.length := hO13.len
  obtain rfl : n6 = D.syn.length := hO14.len
  obtain rfl : n10 = D.uns.length := hO15.len
  replace hH : HH w0 (bks E) [[bl g 55 #[(.slice A1 D.now.length c3), (.slice A5 D.syn.length c7), (.slice A9 D.uns.length c11), (.bool (D.down)), (.bool (D.fused)), (.int .i64 (D.left))]], E4, E8, E12] w0 := hH.cast (by rw [hE16]; simp)
  refine cxSeq ?_
  refine cxReg ?_
  refine pxV (v := (.bool false)) (fun _ _ hF => opAssign rfl rfl) rfl (fun _ _ => rfl) (kA rfl) (by decide) ?_
  refine pxEnd ?_
  refine qxThen ?_
  refine cxSeq ?_
  refine cxReg ?_
  refine pxV (v := (.int .i64 (at_))) (fun _ _ hF => opMove rfl (hF.ev 2 rfl)) rfl (fun _ _ => rfl) (kM [false, true, true, true] rfl rfl) (by decide) ?_
  refine pxV (v := (.bool (decide ((at_) ≥ 0)))) (fun _ _ hF => opGeq rfl (hF.ev 0 rfl) rfl rfl) rfl (fun _ _ => rfl) (kM [false, true, true, true] rfl rfl) (by decide) ?_
  refine pxV (v := (.bool (decide ((at_) ≥ 0)))) (fun _ _ hF => opMove rfl (hF.ev 0 rfl)) rfl (fun _ _ => rfl) (kM [false, true, true, true] rfl rfl) (by decide) ?_
  refine pxSplitP 0 rfl (l1 := [(9, (.bool true)), (0, (.pointer (some ⟨g, 0, none⟩))), (1, (.int .i64 (at_))), (2, (.int .i64 (n)))]) (l2 := [(9, (.bool false)), (0, (.pointer (some ⟨g, 0, none⟩))), (1, (.int .i64 (at_))), (2, (.int .i64 (n)))]) rfl rfl (fun hg17 => ?_) (fun hg17 => ?_)
  · refine pxV (v := (.int .i64 (n))) (fun _ _ hF => opMove rfl (hF.ev 3 rfl)) rfl (gOn 0 rfl rfl rfl (by decide)) (kA rfl) (by decide) ?_
    refine pxV (v := (.bool (decide ((n) ≥ 0)))) (fun _ _ hF => opGeq rfl (hF.ev 0 rfl) rfl rfl) rfl (gOn 1 rfl rfl rfl (by decide)) (kM [false, true, true, true, true] rfl rfl) (by decide) ?_
    refine pxV (v := (.bool (decide ((n) ≥ 0)))) (fun _ _ hF => opPickT rfl (hF.ev 1 rfl) (hF.ev 0 rfl)) rfl (fun _ _ => rfl) (kM [false, false, true, true, true] rfl rfl) (by decide) ?_
    refine pxV (v := (.bool (decide ((n) ≥ 0)))) (fun _ _ hF => opMove rfl (hF.ev 0 rfl)) rfl (fun _ _ => rfl) (kM [false, true, true, true] rfl rfl) (by decide) ?_
    refine pxSplitP 0 rfl (l1 := [(13, (.bool true)), (0, (.pointer (some ⟨g, 0, none⟩))), (1, (.int .i64 (at_))), (2, (.int .i64 (n)))]) (l2 := [(13, (.bool false)), (0, (.pointer (some ⟨g, 0, none⟩))), (1, (.int .i64 (at_))), (2, (.int .i64 (n)))]) rfl rfl (fun hg18 => ?_) (fun hg18 => ?_)
    · refine pxV (v := (.int .i64 (n))) (fun _ _ hF => opMove rfl (hF.ev 3 rfl)) rfl (gOn 0 rfl rfl rfl (by decide)) (kM [true, true, true, false] rfl rfl) (by decide) ?_
      refine pxV (v := (.pointer (some ⟨g, 0, none⟩))) (fun _ _ hF => opMove rfl (hF.ev 2 rfl)) rfl (gOn 1 rfl rfl rfl (by decide)) (kM [true, true, false, true] rfl rfl) (by decide) ?_
      refine pxV (v := (.pointer (some ⟨g, 0, none⟩))) (fun _ _ hF => opNilCheck rfl (hF.ev 0 rfl)) rfl (gOn 2 rfl rfl rfl (by decide)) (kM [false, true, true, true] rfl rfl) (by decide) ?_
      refine pxV (v := (.pointer (some ⟨g, 0, none⟩))) (fun _ _ hF => opField (off := 0) rfl (hF.ev 0 rfl) (by kernel_rfl)) rfl (gOn 2 rfl rfl rfl (by decide)) (kM [false, true, true, true] rfl rfl) (by decide) ?_
      refine pxS (v := (.slice A1 D.now.length c3)) (fun w => w.heap[g]? = some (.cells #[(.slice A1 D.now.length c3), (.slice A5 D.syn.length c7), (.slice A9 D.uns.length c11), (.bool (D.down)), (.bool (D.fused)), (.int .i64 (D.left))] 55 (0, 0))) (hH.blk 0 rfl) (fun _ _ hF hS => opLoadK hS rfl (hF.ev 0 rfl) (by kernel_rfl) rfl) rfl (gOn 2 rfl rfl rfl (by decide)) (kM [false, true, true, true] rfl rfl) (by decide) ?_
      refine pxV (v := (.int .i64 (((D.now.length) : Nat) : Int))) (fun _ _ hF => opLen (e := 71) rfl (by kernel_rfl) (hF.ev 0 rfl)) rfl (gOn 2 rfl rfl rfl (by decide)) (kM [false, true, true, true] rfl rfl) (by decide) ?_
      refine pxV (v := (.int .i64 (at_))) (fun _ _ hF => opMove rfl (hF.ev 3 rfl)) rfl (gOn 2 rfl rfl rfl (by decide)) (kM [true, true, true, false] rfl rfl) (by decide) ?_
      refine pxV (v := (.int .i64 ((((D.now.length) : Nat) : Int) - (at_)))) (fun _ _ hF => opSub rfl (hF.ev 1 rfl) (hF.ev 0 rfl) (wI rfl (by omega) (by omega))) rfl (gOn 3 rfl rfl rfl (by decide)) (kM [false, false, true, true] rfl rfl) (by decide) ?_
      refine pxV (v := (.bool (decide ((n) ≤ ((((D.now.length) : Nat) : Int) - (at_)))))) (fun _ _ hF => opLeq rfl (hF.ev 1 rfl) (hF.ev 0 rfl) rfl) rfl (gOn 2 rfl rfl rfl (by decide)) (kM [false, false, true] rfl rfl) (by decide) ?_
      refine pxV (v := (.bool (decide ((n) ≤ ((((D.now.length) : Nat) : Int) - (at_)))))) (fun _ _ hF => opPickT rfl (hF.ev 1 rfl) (hF.ev 0 rfl)) rfl (fun _ _ => rfl) (kM [false, false] rfl rfl) (by decide) ?_
      refine pxV (v := (.bool (decide ((n) ≤ ((((D.now.length) : Nat) : Int) - (at_)))))) (fun _ _ hF => opAssign rfl (hF.ev 0 rfl)) rfl (fun _ _ => rfl) (kM [false] rfl rfl) (by decide) ?_
      refine pxEnd ?_
      refine qxThen ?_
      refine cxRet ?_
      refine qxRet1 0 rfl rfl ?_
      obtain ⟨E19, hE20, hD⟩ : ∃ E, E = ([[bl g 55 #[(.slice A1 D.now.length c3), (.slice A5 D.syn.length c7), (.slice A9 D.uns.length c11), (.bool (D.down)), (.bool (D.fused)), (.int .i64 (D.left))]], E4, E8, E12] : List Hl).flatten ∧ DkAt g D E := ⟨_, rfl, hok, _, _, _, _, _, _, _, _, _, _, _, _, rfl, hO13, hO14, hO15⟩
      replace hH : HH w0 (bks E) [E19] w0 := hH.cast (by rw [hE20]; simp)
      exact ⟨_, _, rfl, ⟨congrArg Value.bool (dc (by omega)), hD⟩, hH.out1 [true] rfl⟩
    · refine pxU rfl (gOff 0 rfl rfl rfl (by decide)) (kM [true, true, true, false] rfl rfl) (by decide) ?_
      refine pxU rfl (gOff 0 rfl rfl rfl (by decide)) (kM [true, false, true] rfl rfl) (by decide) ?_
      refine pxU rfl (gOff 0 rfl rfl rfl (by decide)) (kA rfl) (by decide) ?_
      refine pxU rfl (gOff 0 rfl rfl rfl (by decide)) (kA rfl) (by decide) ?_
      refine pxU rfl (gOff 0 rfl rfl rfl (by decide)) (kA rfl) (by decide) ?_
      refine pxU rfl (gOff 0 rfl rfl rfl (by decide)) (kA rfl) (by decide) ?_
      refine pxU rfl (gOff 0 rfl rfl rfl (by decide)) (kM [true, false] rfl rfl) (by decide) ?_
      refine pxU rfl (gOff 0 rfl rfl rfl (by decide)) (kA rfl) (by decide) ?_
      refine pxU rfl (gOff 0 rfl rfl rfl (by decide)) (kA rfl) (by decide) ?_
      refine pxV (v := (.bool false)) (fun _ _ hF => opPickF rfl (hF.ev 0 rfl) rfl) rfl (fun _ _ => rfl) (kM [false] rfl rfl) (by decide) ?_
      refine pxV (v := (.bool false)) (fun _ _ hF => opAssign rfl (hF.ev 0 rfl)) rfl (fun _ _ => rfl) (kM [false] rfl rfl) (by decide) ?_
      refine pxEnd ?_
      refine qxThen ?_
      refine cxRet ?_
      refine qxRet1 0 rfl rfl ?_
      obtain ⟨E21, hE22, hD⟩ : ∃ E, E = ([[bl g 55 #[(.slice A1 D.now.length c3), (.slice A5 D.syn.length c7), (.slice A9 D.uns.length c11), (.bool (D.down)), (.bool (D.fused)), (.int .i64 (D.left))]], E4, E8, E12] : List Hl).flatten ∧ DkAt g D E := ⟨_, rfl, hok, _, _, _, _, _, _, _, _, _, _, _, _, rfl, hO13, hO14, hO15⟩
      replace hH : HH w0 (bks E) [E21] w0 := hH.cast (by rw [hE22]; simp)
      exact ⟨_, _, rfl, ⟨congrArg Value.bool ((decide_eq_false (by omega)).symm), hD⟩, hH.out1 [true] rfl⟩
  · refine pxU rfl (gOff 0 rfl rfl rfl (by decide)) (kA rfl) (by decide) ?_
    refine pxU rfl (gOff 0 rfl rfl rfl (by decide)) (kA rfl) (by decide) ?_
    refine pxV (v := (.bool false)) (fun _ _ hF => opPickF rfl (hF.ev 0 rfl) rfl) rfl (fun _ _ => rfl) (kM [false, true, true, true] rfl rfl) (by decide) ?_
    refine pxV (v := (.bool false)) (fun _ _ hF => opMove rfl (hF.ev 0 rfl)) rfl (fun _ _ => rfl) (kM [false, true, true, true] rfl rfl) (by decide) ?_
    refine pxU rfl (gOff 0 rfl rfl rfl (by decide)) (kM [true, true, true, false] rfl rfl) (by decide) ?_
    refine pxU rfl (gOff 0 rfl rfl rfl (by decide)) (kM [true, false, true] rfl rfl) (by decide) ?_
    refine pxU rfl (gOff 0 rfl rfl rfl (by decide)) (kA rfl) (by decide) ?_
    refine pxU rfl (gOff 0 rfl rfl rfl (by decide)) (kA rfl) (by decide) ?_
    refine pxU rfl (gOff 0 rfl rfl rfl (by decide)) (kA rfl) (by decide) ?_
    refine pxU rfl (gOff 0 rfl rfl rfl (by decide)) (kA rfl) (by decide) ?_
    refine pxU rfl (gOff 0 rfl rfl rfl (by decide)) (kM [true, false] rfl rfl) (by decide) ?_
    refine pxU rfl (gOff 0 rfl rfl rfl (by decide)) (kA rfl) (by decide) ?_
    refine pxU rfl (gOff 0 rfl rfl rfl (by decide)) (kA rfl) (by decide) ?_
    refine pxV (v := (.bool false)) (fun _ _ hF => opPickF rfl (hF.ev 0 rfl) rfl) rfl (fun _ _ => rfl) (kM [false] rfl rfl) (by decide) ?_
    refine pxV (v := (.bool false)) (fun _ _ hF => opAssign rfl (hF.ev 0 rfl)) rfl (fun _ _ => rfl) (kM [false] rfl rfl) (by decide) ?_
    refine pxEnd ?_
    refine qxThen ?_
    refine cxRet ?_
    refine qxRet1 0 rfl rfl ?_
    obtain ⟨E23, hE24, hD⟩ : ∃ E, E = ([[bl g 55 #[(.slice A1 D.now.length c3), (.slice A5 D.syn.length c7), (.slice A9 D.uns.length c11), (.bool (D.down)), (.bool (D.fused)), (.int .i64 (D.left))]], E4, E8, E12] : List Hl).flatten ∧ DkAt g D E := ⟨_, rfl, hok, _, _, _, _, _, _, _, _, _, _, _, _, rfl, hO13, hO14, hO15⟩
    replace hH : HH w0 (bks E) [E23] w0 := hH.cast (by rw [hE24]; simp)
    exact ⟨_, _, rfl, ⟨congrArg Value.bool ((decide_eq_false (by omega)).symm), hD⟩, hH.out1 [true] rfl⟩

set_option maxHeartbeats 8000000 in
theorem setFuse_c (g : Nat) (D : Dk) (E : Hl) (hD : DkAt g D E) (n : Int) (h2 : n ≤ 9223372036854775807) : Does Try.prog 19 #[(.pointer (some ⟨g, 0, none⟩)), (.int .i64 (n))] E (fun _ => True) (fun v E' => v = .tuple #[] ∧ DkAt g { D with fused := decide (0 ≤ n), left := n } E') := by
  refine does_of (fn := Try.f19) Try.func19 rfl Try.ntmps19 (Nat.le_of_ble_eq_true rfl) rfl ?_
  intro w0 hH hR
  have hok := hD.ok
  obtain ⟨A1, n2, c3, E4, A5, n6, c7, E8, A9, n10, c11, E12, hE16, hO13, hO14, hO15⟩ := hD.at'
  obtain rfl : n2 = D.now.length := hO13.len
  obtain rfl : n6 = D.syn.length := hO14.len
  obtain rfl : n10 = D.uns.length := hO15.len
  replace hH : HH w0 (bks E) [[bl g 55 #[(.slice A1 D.now.length c3), (.slice A5 D.syn.length c7), (.slice A9 D.uns.length c11), (.bool (D.down)), (.bool (D.fused)), (.int .i64 (D.left))]], E4, E8, E12] w0 := hH.cast (by rw [hE16]; simp)
  refine cxSeq ?_
  refine cxSeq ?_
  refine cxReg ?_
  refine pxV (v := (.pointer (some ⟨g, 0, none⟩))) (fun _ _ hF => opMove rfl (hF.ev 0 rfl)) rfl (fun _ _ => rfl) (kA rfl) (by decide) ?_
  refine pxV (v := (.bool false)) (fun _ _ hF => opEqNil (e := 55) rfl (by kernel_rfl) (hF.ev 0 rfl) rfl rfl) rfl (fun _ _ => rfl) (kM [false, true, true] rfl rfl) (by decide) ?_
  refine pxEnd ?_
  refine qxThen ?_
  refine cxF 0 rfl rfl ?_
  refine cxSkip ?_
  refine qxThen ?_
  refine cxReg ?_
  refine pxV (v := (.pointer (some ⟨g, 0, none⟩))) (fun _ _ hF => opMove rfl (hF.ev 1 rfl)) rfl (fun _ _ => rfl) (kM [false, true, true] rfl rfl) (by decide) ?_
  refine pxV (v := (.pointer (some ⟨g, 0, none⟩))) (fun _ _ hF => opMove rfl (hF.ev 1 rfl)) rfl (fun _ _ => rfl) (kM [true, false, true] rfl rfl) (by decide) ?_
  refine pxV (v := (.int .i64 (n))) (fun _ _ hF => opMove rfl (hF.ev 2 rfl)) rfl (fun _ _ => rfl) (kA rfl) (by decide) ?_
  refine pxV (v := (.bool (decide ((n) ≥ 0)))) (fun _ _ hF => opGeq rfl (hF.ev 0 rfl) rfl rfl) rfl (fun _ _ => rfl) (kM [false, true, true, true] rfl rfl) (by decide) ?_
  refine pxV (v := (.int .i64 (n))) (fun _ _ hF => opMove rfl (hF.ev 3 rfl)) rfl (fun _ _ => rfl) (kM [true, true, true, false] rfl rfl) (by decide) ?_
  refine pxV (v := (.pointer (some ⟨g, 0, none⟩))) (fun _ _ hF => opNilCheck rfl (hF.ev 3 rfl)) rfl (fun _ _ => rfl) (kM [true, true, true, false] rfl rfl) (by decide) ?_
  refine pxV (v := (.pointer (some ⟨g, 4, none⟩))) (fun _ _ hF => opField (off := 4) rfl (hF.ev 0 rfl) (by kernel_rfl)) rfl (fun _ _ => rfl) (kM [false, true, true, true] rfl rfl) (by decide) ?_
  refine pxE0 0 hH rfl (fun _ hF => smStore (v := (.bool (decide ((n) ≥ 0)))) rfl (hF.ev 0 rfl) (hF.ev 2 rfl) (by kernel_rfl) (ltb rfl) rfl rfl) trivial rfl (fun _ _ => rfl) ?_
  clear hH
  rintro _ _ w rfl hH
  replace hH : HH w0 (bks E) [[bl g 55 #[(.slice A1 D.now.length c3), (.slice A5 D.syn.length c7), (.slice A9 D.uns.length c11), (.bool (D.down)), (.bool (decide ((n) ≥ 0))), (.int .i64 (D.left))]], E4, E8, E12] w := hH
  refine pxV (v := (.pointer (some ⟨g, 0, none⟩))) (fun _ _ hF => opNilCheck rfl (hF.ev 3 rfl)) rfl (fun _ _ => rfl) (kM [false, true, false, false] rfl rfl) (by decide) ?_
  refine pxV (v := (.pointer (some ⟨g, 5, none⟩))) (fun _ _ hF => opField (off := 5) rfl (hF.ev 0 rfl) (by kernel_rfl)) rfl (fun _ _ => rfl) (kM [false, true] rfl rfl) (by decide) ?_
  refine pxE0 0 hH rfl (fun _ hF => smStore (v := (.int .i64 (n))) rfl (hF.ev 0 rfl) (hF.ev 1 rfl) (by kernel_rfl) (ltb rfl) rfl rfl) trivial rfl (fun _ _ => rfl) ?_
  clear hH
  rintro _ _ w rfl hH
  replace hH : HH w0 (bks E) [[bl g 55 #[(.slice A1 D.now.length c3), (.slice A5 D.syn.length c7), (.slice A9 D.uns.length c11), (.bool (D.down)), (.bool (decide ((n) ≥ 0))), (.int .i64 (n))]], E4, E8, E12] w := hH
  refine pxEnd ?_
  refine qxEnd0 rfl ?_
  obtain ⟨E17, hE18, hD⟩ : ∃ E, E = ([[bl g 55 #[(.slice A1 D.now.length c3), (.slice A5 D.syn.length c7), (.slice A9 D.uns.length c11), (.bool (D.down)), (.bool (decide ((n) ≥ 0))), (.int .i64 (n))]], E4, E8, E12] : List Hl).flatten ∧ DkAt g (⟨D.now, D.syn, D.uns, D.down, decide ((n) ≥ 0), n⟩) E := ⟨_, rfl, ⟨hok.nn, hok.sz, hok.uns, fun h => of_decide_eq_true h, h2⟩, _, _, _, _, _, _, _, _, _, _, _, _, rfl, hO13, hO14, hO15⟩
  replace hH : HH w0 (bks E) [E17] w := hH.cast (by rw [hE18]; simp)
  exact ⟨_, _, rfl, ⟨rfl, hD⟩, hH.out1 [true] rfl⟩

/-- A sector written. -/
def Dk.put (D : Dk) (at_ : Nat) (s : Sec) : Dk := { D with now := D.now.set at_ s, uns := D.uns ++ [(at_, s)] }
theorem put_ok {D : Dk} (h : D.Ok) {at_ : Nat} (hat : at_ < D.now.length) (s : Sec) : (D.put at_ s).Ok :=
  ⟨by show D.syn.length = (D.now.set at_ s).length; rw [List.length_set]; exact h.nn, by show (D.now.set at_ s).length ≤ _; rw [List.length_set]; exact h.sz, fun c hc => by
    show c.1 < (D.now.set at_ s).length
    rw [List.length_set]
    rcases List.mem_append.1 hc with hc | hc
    · exact h.uns c hc
    · obtain rfl : c = (at_, s) := by simpa using hc
      exact hat, h.left, h.max⟩

set_option maxHeartbeats 8000000 in
theorem put_c (g : Nat) (D : Dk) (E : Hl) (hD : DkAt g D E) (at_ : Nat) (s : Sec) (hat : at_ < D.now.length) (hU : D.uns.length ≤ 1000000) : Does Try.prog 36 #[(.pointer (some ⟨g, 0, none⟩)), (cChg.val (at_, s))] E (fun _ => True) (fun v E' => v = .tuple #[] ∧ DkAt g (D.put at_ s) E') := by
  refine does_of (fn := Try.f36) Try.func36 rfl Try.ntmps36 (Nat.le_of_ble_eq_true rfl) rfl ?_
  intro w0 hH hR
  have hok := hD.ok; have hsz := hok.sz; have hnn := hok.nn
  obtain ⟨A1, n2, c3, E4, A5, n6, c7, E8, A9, n10, c11, E12, hE16, hO13, hO14, hO15⟩ := hD.at'
  obtain rfl : n2 = D.now.length := hO13.len
  obtain rfl : n6 = D.syn.length := hO14.len
  obtain rfl : n10 = D.uns.length := hO15.len
  replace hH : HH w0 (bks E) [[bl g 55 #[(.slice A1 D.now.length c3), (.slice A5 D.syn.length c7), (.slice A9 D.uns.length c11), (.bool (D.down)), (.bool (D.fused)), (.int .i64 (D.left))]], E4, E8, E12] w0 := hH.cast (by rw [hE16]; simp)
  refine cxSeq ?_
  refine cxReg ?_
  refine pxM hH (fun _ hF => smBox rfl (hF.ev 1 rfl) rfl) trivial rfl (fun _ _ => rfl) (kM [true, false] rfl rfl) (by decide) ?_
  clear hH
  rintro _ _ w ⟨g17, rfl, rfl⟩ hH
  replace hH : HH w0 (bks E) [[bl g 55 #[(.slice A1 D.now.length c3), (.slice A5 D.syn.length c7), (.slice A9 D.uns.length c11), (.bool (D.down)), (.bool (D.fused)), (.int .i64 (D.left))]], E4, E8, E12, [bl g17 73 (cChg.enc (at_, s))]] w := hH
  refine pxEnd ?_
  refine qxThen ?_
  refine cxSeq ?_
  refine cxRegX mixedOrders (by kernel_rfl) ?_
  replace hH := hH.drew
  refine rxV 0 rfl (by kernel_rfl) rfl (fun _ _ => rfl) (fun _ _ hF => opMove rfl (hF.ev 1 rfl)) (kA rfl) (by decide) (v := (.pointer (some ⟨g, 0, none⟩))) ?_
  refine rxV 1 rfl (by kernel_rfl) rfl (fun _ _ => rfl) (fun _ _ hF => opNilCheck rfl (hF.ev 0 rfl)) (kM [false, true, true] rfl rfl) (by decide) (v := (.pointer (some ⟨g, 0, none⟩))) ?_
  refine rxV 2 rfl (by kernel_rfl) rfl (fun _ _ => rfl) (fun _ _ hF => opField (off := 0) rfl (hF.ev 0 rfl) (by kernel_rfl)) (kM [false, true, true] rfl rfl) (by decide) (v := (.pointer (some ⟨g, 0, none⟩))) ?_
  refine rxS (fun w => w.heap[g]? = some (.cells #[(.slice A1 D.now.length c3), (.slice A5 D.syn.length c7), (.slice A9 D.uns.length c11), (.bool (D.down)), (.bool (D.fused)), (.int .i64 (D.left))] 55 (0, 0))) 3 rfl (by kernel_rfl) rfl (fun _ _ => rfl) (hH.blk 0 rfl) (fun _ _ hF hS => opLoadK hS rfl (hF.ev 0 rfl) (by kernel_rfl) rfl) (kM [false, true, true] rfl rfl) (by decide) (v := (.slice A1 D.now.length c3)) ?_
  refine rxV 4 rfl (by kernel_rfl) rfl (fun _ _ => rfl) (fun _ _ hF => opField (off := 0) rfl (hF.ev 1 rfl) (by kernel_rfl)) (kA rfl) (by decide) (v := (.pointer (some ⟨g17, 0, none⟩))) ?_
  refine rxS (fun w => w.heap[g17]? = some (.cells (cChg.enc (at_, s)) 73 (0, 0))) 5 rfl (by kernel_rfl) rfl (fun _ _ => rfl) (hH.blk 4 rfl) (fun _ _ hF hS => opLoadT (C := (cNat .i64)) (y := at_) rfl (hF.ev 0 rfl) (by kernel_rfl) (holds_blk0 hS).fst rfl) (kM [false, true, true, true] rfl rfl) (by decide) (v := (.int .i64 (((at_) : Nat) : Int))) ?_
  refine rxV 6 rfl (by kernel_rfl) rfl (fun _ _ => rfl) (fun _ _ hF => opField (off := 1) rfl (hF.ev 2 rfl) (by kernel_rfl)) (kA rfl) (by decide) (v := (.pointer (some ⟨g17, 1, none⟩))) ?_
  refine rxS (fun w => w.heap[g17]? = some (.cells (cChg.enc (at_, s)) 73 (0, 0))) 7 rfl (by kernel_rfl) rfl (fun _ _ => rfl) (hH.blk 4 rfl) (fun _ _ hF hS => opLoadT (C := cSec) (y := s) rfl (hF.ev 0 rfl) (by kernel_rfl) (holds_blk0 hS).snd rfl) (kM [false, true, true, true, true] rfl rfl) (by decide) (v := (cSec.val s)) ?_
  have hi18 : at_ < D.now.length := by omega
  obtain ⟨g19, cap20, cur21, hv23, rfl, hB22⟩ := hO13.open (by omega)
  obtain ⟨rfl, rfl⟩ : A1 = some ⟨g19, 0, none⟩ ∧ c3 = cap20 := by injection hv23 with h1 h2 h3; exact ⟨h1, h3⟩
  have := hB22.le
  have hj26 : at_ < D.now.length := by first | exact hi18 | (simp only [List.length_drop, List.length_take]; omega) | omega
  obtain ⟨x24, hx25⟩ := get_at D.now at_ hj26
  refine rxV 8 rfl (by kernel_rfl) rfl (fun _ _ => rfl) (fun _ _ hF => opIndex (i := at_) (e := 71) (sz := 64) rfl (by kernel_rfl) (by kernel_rfl) (hF.ev 2 rfl) (hF.ev 1 rfl) rfl hi18) (kM [true, false, false, true, true] rfl rfl) (by decide) (v := (.pointer (some ⟨g19, 0 + at_ * 64, none⟩))) ?_
  refine rx1 9 (by kernel_rfl) ?_
  obtain ⟨cur28, hcs29, hB27⟩ : ∃ cs, putL cur21 (0 + at_ * 64) (cSec.enc s).toList = cs ∧ Bk cSec c3 cs (D.now.set at_ s) := ⟨_, rfl, put_at hB22 at_ hj26 s⟩
  refine moE0 1 rfl hH rfl (fun _ hF => smStoreT (C := cSec) (z := s) rfl (hF.ev 0 rfl) (hF.ev 1 rfl) rfl (by kernel_rfl) (room_at hB22 hj26) hcs29) trivial rfl (fun _ _ => rfl) (PendOk.go [] (by kernel_rfl) (PendOk.go [] (by kernel_rfl) (PendOk.go [] (by kernel_rfl) (PendOk.nil _ [])))) ?_
  clear hH
  rintro _ _ w rfl hH
  replace hH : HH w0 (bks E) [[bl g 55 #[(.slice (some ⟨g19, 0, none⟩) D.now.length c3), (.slice A5 D.syn.length c7), (.slice A9 D.uns.length c11), (.bool (D.down)), (.bool (D.fused)), (.int .i64 (D.left))]], [bl g19 71 cur28], E8, E12, [bl g17 73 (cChg.enc (at_, s))]] w := hH
  refine ⟨(fun _ hs => by cases hs), ?_⟩
  refine rxEnd (by kernel_rfl) ?_
  refine qxThen ?_
  refine cxRegX mixedOrders (by kernel_rfl) ?_
  replace hH := hH.drew
  refine rxV 0 rfl (by kernel_rfl) rfl (fun _ _ => rfl) (fun _ _ hF => opMove rfl (hF.ev 3 rfl)) (kM [false, false, true, true] rfl rfl) (by decide) (v := (.pointer (some ⟨g, 0, none⟩))) ?_
  refine rxV 1 rfl (by kernel_rfl) rfl (fun _ _ => rfl) (fun _ _ hF => opMove rfl (hF.ev 2 rfl)) (kM [true, true, false] rfl rfl) (by decide) (v := (.pointer (some ⟨g, 0, none⟩))) ?_
  refine rxV 2 rfl (by kernel_rfl) rfl (fun _ _ => rfl) (fun _ _ hF => opNilCheck rfl (hF.ev 0 rfl)) (kM [false, true, true] rfl rfl) (by decide) (v := (.pointer (some ⟨g, 0, none⟩))) ?_
  refine rxV 3 rfl (by kernel_rfl) rfl (fun _ _ => rfl) (fun _ _ hF => opField (off := 2) rfl (hF.ev 0 rfl) (by kernel_rfl)) (kM [false, true, true] rfl rfl) (by decide) (v := (.pointer (some ⟨g, 2, none⟩))) ?_
  refine rxS (fun w => w.heap[g]? = some (.cells #[(.slice (some ⟨g19, 0, none⟩) D.now.length c3), (.slice A5 D.syn.length c7), (.slice A9 D.uns.length c11), (.bool (D.down)), (.bool (D.fused)), (.int .i64 (D.left))] 55 (0, 0))) 4 rfl (by kernel_rfl) rfl (fun _ _ => rfl) (hH.blk 0 rfl) (fun _ _ hF hS => opLoadK hS rfl (hF.ev 0 rfl) (by kernel_rfl) rfl) (kM [false, true, true] rfl rfl) (by decide) (v := (.slice A9 D.uns.length c11)) ?_
  refine rxS (fun w => w.heap[g17]? = some (.cells (cChg.enc (at_, s)) 73 (0, 0))) 5 rfl (by kernel_rfl) rfl (fun _ _ => rfl) (hH.blk 4 rfl) (fun _ _ hF hS => opLoadT (C := cChg) (y := (at_, s)) rfl (hF.ev 2 rfl) (by kernel_rfl) (holds_blk0 hS) rfl) (kM [true, true, false] rfl rfl) (by decide) (v := (cChg.val (at_, s))) ?_
  refine rx1 6 (by kernel_rfl) ?_
  refine moM rfl hH (fun _ hF => smLit1 (e := 73) (sz := 65) (z := (cChg.val (0, fun _ => 0))) (by_ := 72) (cs := cChg.enc (at_, s)) rfl (by kernel_rfl) (by kernel_rfl) (hF.ev 0 rfl) (cChg.len (at_, s)) (ltb rfl) (leb rfl) rfl) trivial rfl (fun _ _ => rfl) (kM [false, true, true] rfl rfl) (by decide) (PendOk.go [] (by kernel_rfl) (PendOk.keep (PendOk.nil _ []))) ?_
  clear hH
  rintro _ _ w ⟨g30, rfl, rfl⟩ hH
  replace hH : HH w0 (bks E) [[bl g 55 #[(.slice (some ⟨g19, 0, none⟩) D.now.length c3), (.slice A5 D.syn.length c7), (.slice A9 D.uns.length c11), (.bool (D.down)), (.bool (D.fused)), (.int .i64 (D.left))]], [bl g19 71 cur28], E8, E12, [bl g17 73 (cChg.enc (at_, s))], [bl g30 73 (cChg.enc (at_, s))]] w := hH
  refine ⟨(by
    intro s hs
    simp only [List.mem_cons, List.not_mem_nil, or_false] at hs
    rcases hs with rfl
    · exact (hH.blk 0 rfl)
    ), ?_⟩
  refine rx1 7 (by kernel_rfl) ?_
  refine moE 3 rfl hH rfl (fun _ hF => smAppT (C := cChg) (l := D.uns) (m := [(at_, s)]) (e := 73) (z := (cChg.val (0, fun _ => 0))) (by_ := 72) rfl (by kernel_rfl) (by kernel_rfl) rfl (ltb rfl) (hF.ev 1 rfl) hO15 (hF.ev 0 rfl) rfl (fun h => by cases h) (by unfold maxLen; omega) (by omega)) ((Bk.lit1 (C := cChg) (at_, s)).vu (hH.blk 5 rfl) rfl) rfl (fun _ _ => rfl) (kM [false, false, true] rfl rfl) (by decide) (PendOk.go [] (by kernel_rfl) (PendOk.nil _ [])) ?_
  clear hH
  rintro v33 E34 w ⟨hO35, _⟩ hH
  replace hH : HH w0 (bks E) [[bl g 55 #[(.slice (some ⟨g19, 0, none⟩) D.now.length c3), (.slice A5 D.syn.length c7), (.slice A9 D.uns.length c11), (.bool (D.down)), (.bool (D.fused)), (.int .i64 (D.left))]], [bl g19 71 cur28], E8, E34, [bl g17 73 (cChg.enc (at_, s))], [bl g30 73 (cChg.enc (at_, s))]] w := hH
  replace hO35 : OwnT cChg 73 v33 (D.uns ++ [(at_, s)]) E34 := hO35
  obtain ⟨A31, c32, rfl⟩ := hO35.slice
  refine ⟨(fun _ hs => by cases hs), ?_⟩
  refine rxV 8 rfl (by kernel_rfl) rfl (fun _ _ => rfl) (fun _ _ hF => opNilCheck rfl (hF.ev 1 rfl)) (kM [true, false] rfl rfl) (by decide) (v := (.pointer (some ⟨g, 0, none⟩))) ?_
  refine rxV 9 rfl (by kernel_rfl) rfl (fun _ _ => rfl) (fun _ _ hF => opField (off := 2) rfl (hF.ev 0 rfl) (by kernel_rfl)) (kM [false, true] rfl rfl) (by decide) (v := (.pointer (some ⟨g, 2, none⟩))) ?_
  refine rx1 10 (by kernel_rfl) ?_
  refine moE0 0 rfl hH rfl (fun _ hF => smStore (v := (.slice A31 ((D.uns ++ [(at_, s)]).length) c32)) rfl (hF.ev 0 rfl) (hF.ev 1 rfl) (by kernel_rfl) (ltb rfl) rfl rfl) trivial rfl (fun _ _ => rfl) (PendOk.nil _ []) ?_
  clear hH
  rintro _ _ w rfl hH
  replace hH : HH w0 (bks E) [[bl g 55 #[(.slice (some ⟨g19, 0, none⟩) D.now.length c3), (.slice A5 D.syn.length c7), (.slice A31 ((D.uns ++ [(at_, s)]).length) c32), (.bool (D.down)), (.bool (D.fused)), (.int .i64 (D.left))]], [bl g19 71 cur28], E8, E34, [bl g17 73 (cChg.enc (at_, s))], [bl g30 73 (cChg.enc (at_, s))]] w := hH
  refine ⟨(fun _ hs => by cases hs), ?_⟩
  refine rxEnd (by kernel_rfl) ?_
  refine qxEnd0 rfl ?_
  obtain ⟨E36, hE37, hD⟩ : ∃ E, E = ([[bl g 55 #[(.slice (some ⟨g19, 0, none⟩) D.now.length c3), (.slice A5 D.syn.length c7), (.slice A31 ((D.uns ++ [(at_, s)]).length) c32), (.bool (D.down)), (.bool (D.fused)), (.int .i64 (D.left))]], [bl g19 71 cur28], E8, E34] : List Hl).flatten ∧ DkAt g (⟨(D.now.set at_ s), D.syn, (D.uns ++ [(at_, s)]), D.down, D.fused, D.left⟩) E := ⟨_, rfl, put_ok hok hat s, _, _, _, _, _, _, _, _, _, _, _, _, rfl, (hB27.own 71 g19 (by simp)), hO14, hO35⟩
  replace hH : HH w0 (bks E) [E36, [bl g17 73 (cChg.enc (at_, s))], [bl g30 73 (cChg.enc (at_, s))]] w := hH.cast (by rw [hE37]; simp)
  exact ⟨_, _, rfl, ⟨rfl, hD⟩, hH.out1 [true, false, false] rfl⟩

/-- What is synced behind a settling; what is there behind it. -/
def synced (keep : List Bool) : Nat → List (Nat × Sec) → List Sec → List Sec
  | _, [], S => S
  | i, c :: r, S => synced keep (i + 1) r (if keep.getD (i % keep.length) false then S.set c.1 c.2 else S)
def back (S : List Sec) : List (Nat × Sec) → List Sec → List Sec
  | [], N => N
  | c :: r, N => back S r (N.set c.1 (S.getD c.1 fun _ => 0))
theorem synced_len (keep : List Bool) : ∀ (r : List (Nat × Sec)) (i : Nat) (S : List Sec), (synced keep i r S).length = S.length
  | [], _, _ => rfl
  | c :: r, i, S => by
    show (synced keep (i + 1) r _).length = _
    rw [synced_len keep r]
    split
    · rw [List.length_set]
    · rfl
theorem back_len (S : List Sec) : ∀ (r : List (Nat × Sec)) (N : List Sec), (back S r N).length = N.length
  | [], _ => rfl
  | c :: r, N => by
    show (back S r _).length = _
    rw [back_len S r, List.length_set]
def Dk.settle (D : Dk) (keep : List Bool) : Dk := { D with now := back (synced keep 0 D.uns D.syn) D.uns D.now, syn := synced keep 0 D.uns D.syn, uns := [] }
theorem settle_ok {D : Dk} (h : D.Ok) (keep : List Bool) : (D.settle keep).Ok :=
  ⟨by show (synced keep 0 D.uns D.syn).length = (back _ D.uns D.now).length; rw [synced_len, back_len]; exact h.nn, by show (back _ D.uns D.now).length ≤ _; rw [back_len]; exact h.sz, (fun c hc => by cases hc), h.left, h.max⟩
theorem synced_step {keep : List Bool} {U : List (Nat × Sec)} {i : Nat} {x : Nat × Sec} {S : List Sec} {b : Bool} (hx : U[i]? = some x) (hb : keep[i % keep.length]? = some b) : synced keep i (U.drop i) S = synced keep (i + 1) (U.drop (i + 1)) (if b then S.set x.1 x.2 else S) := by
  rw [drop_at hx]
  show synced keep (i + 1) _ (if keep.getD (i % keep.length) false then _ else _) = _
  rw [getD_at hb]
theorem back_step {U : List (Nat × Sec)} {i : Nat} {x : Nat × Sec} {S N : List Sec} {y : Sec} (hx : U[i]? = some x) (hy : S[x.1]? = some y) : back S (U.drop i) N = back S (U.drop (i + 1)) (N.set x.1 y) := by
  rw [drop_at hx]
  show back S _ (N.set x.1 (S.getD x.1 fun _ => 0)) = _
  rw [getD_at hy]

set_option maxHeartbeats 8000000 in
theorem settle_c (g : Nat) (D : Dk) (E : Hl) (hD : DkAt g D E) (keep : List Bool) (hk : 0 < keep.length) (A : Option Addr) (c : Nat) (hA : Off A keep.length (bks E)) (hU : D.uns.length ≤ 1000000) : Does Try.prog 32 #[(.pointer (some ⟨g, 0, none⟩)), (.slice A keep.length c)] E (fun w => Vu cBool w A keep.length c keep) (fun v E' => v = .tuple #[] ∧ DkAt g (D.settle keep) E') := by
  refine does_of (fn := Try.f32) Try.func32 rfl Try.ntmps32 (Nat.le_of_ble_eq_true rfl) rfl ?_
  intro w0 hH hR
  have hok := hD.ok; have hsz := hok.sz; have hnn := hok.nn
  obtain ⟨A1, n2, c3, E4, A5, n6, c7, E8, A9, n10, c11, E12, hE16, hO13, hO14, hO15⟩ := hD.at'
  obtain rfl : n2 = D.now.length := hO13.len
  obtain rfl : n6 = D.syn.length := hO14.len
  obtain rfl : n10 = D.uns.length := hO15.len
  replace hH : HH w0 (bks E) [[bl g 55 #[(.slice A1 D.now.length c3), (.slice A5 D.syn.length c7), (.slice A9 D.uns.length c11), (.bool (D.down)), (.bool (D.fused)), (.int .i64 (D.left))]], E4, E8, E12] w0 := hH.cast (by rw [hE16]; simp)
  refine cxSeq ?_
  refine cxSeq ?_
  refine cxReg ?_
  refine pxV (v := (.pointer (some ⟨g, 0, none⟩))) (fun _ _ hF => opMove rfl (hF.ev 0 rfl)) rfl (fun _ _ => rfl) (kA rfl) (by decide) ?_
  refine pxV (v := (.pointer (some ⟨g, 0, none⟩))) (fun _ _ hF => opNilCheck rfl (hF.ev 0 rfl)) rfl (fun _ _ => rfl) (kM [false, true, true] rfl rfl) (by decide) ?_
  refine pxV (v := (.pointer (some ⟨g, 2, none⟩))) (fun _ _ hF => opField (off := 2) rfl (hF.ev 0 rfl) (by kernel_rfl)) rfl (fun _ _ => rfl) (kM [false, true, true] rfl rfl) (by decide) ?_
  refine pxS (v := (.slice A9 D.uns.length c11)) (fun w => w.heap[g]? = some (.cells #[(.slice A1 D.now.length c3), (.slice A5 D.syn.length c7), (.slice A9 D.uns.length c11), (.bool (D.down)), (.bool (D.fused)), (.int .i64 (D.left))] 55 (0, 0))) (hH.blk 0 rfl) (fun _ _ hF hS => opLoadK hS rfl (hF.ev 0 rfl) (by kernel_rfl) rfl) rfl (fun _ _ => rfl) (kM [false, true, true] rfl rfl) (by decide) ?_
  refine pxV (v := (.int .i64 (((D.uns.length) : Nat) : Int))) (fun _ _ hF => opLen (e := 73) rfl (by kernel_rfl) (hF.ev 0 rfl)) rfl (fun _ _ => rfl) (kA rfl) (by decide) ?_
  refine pxV (v := (.int .i64 0)) (fun _ _ hF => opMove rfl rfl) rfl (fun _ _ => rfl) (kA rfl) (by decide) ?_
  refine pxEnd ?_
  refine qxThen ?_
  refine cxBlock ?_
  refine cxLoop (σ := Nat × (List Sec) × Hl) (fun x => [(13, (.int .i64 (((x.1) : Nat) : Int))), (12, (.int .i64 (((D.uns.length) : Nat) : Int))), (11, (.slice A9 D.uns.length c11)), (1, (.slice A keep.length c)), (0, (.pointer (some ⟨g, 0, none⟩)))]) (fun x w => HH w0 (bks E) [[bl g 55 #[(.slice A1 D.now.length c3), (.slice A5 D.syn.length c7), (.slice A9 D.uns.length c11), (.bool (D.down)), (.bool (D.fused)), (.int .i64 (D.left))]], E4, x.2.2, E12] w ∧ (x.1 ≤ D.uns.length) ∧ (OwnT cSec 71 (.slice A5 D.syn.length c7) x.2.1 x.2.2) ∧ (x.2.1.length = D.syn.length) ∧ (synced keep 0 D.uns D.syn = synced keep x.1 (D.uns.drop x.1) x.2.1)) (fun x => D.uns.length - x.1) (0, D.syn, E8) ⟨hH, (Nat.zero_le _), hO14, rfl, rfl⟩ (slots_at [0, 1, 2, 4, 3] rfl) ?_
  clear hH
  rintro ⟨i, S, E2⟩ w ⟨hH, hi, hO2, hS, hsy⟩
  change CX _ _ _ _ [(13, (.int .i64 (((i) : Nat) : Int))), (12, (.int .i64 (((D.uns.length) : Nat) : Int))), (11, (.slice A9 D.uns.length c11)), (1, (.slice A keep.length c)), (0, (.pointer (some ⟨g, 0, none⟩)))] _
  replace hH : HH w0 (bks E) [[bl g 55 #[(.slice A1 D.now.length c3), (.slice A5 D.syn.length c7), (.slice A9 D.uns.length c11), (.bool (D.down)), (.bool (D.fused)), (.int .i64 (D.left))]], E4, E2, E12] w := hH
  replace hi : i ≤ D.uns.length := hi
  replace hO2 : OwnT cSec 71 (.slice A5 D.syn.length c7) S E2 := hO2
  replace hS : S.length = D.syn.length := hS
  replace hsy : synced keep 0 D.uns D.syn = synced keep i (D.uns.drop i) S := hsy
  refine cxSeq ?_
  refine cxReg ?_
  refine pxV (v := (.bool (decide (i < D.uns.length)))) (fun _ _ hF => opLss rfl (hF.ev 0 rfl) (hF.ev 1 rfl) (dc (by omega))) rfl (fun _ _ => rfl) (kA rfl) (by decide) ?_
  refine pxEnd ?_
  refine qxThen ?_
  refine cxSeq ?_
  refine cxP 0 rfl rfl (fun hc17 => ?_) (fun hc17 => ?_)
  · refine cxSkip ?_
    refine qxThen ?_
    refine cxSeq ?_
    refine cxBlock ?_
    refine cxSeq ?_
    refine cxReg ?_
    refine pxV (v := (.int .i64 (((i) : Nat) : Int))) (fun _ _ hF => opMove rfl (hF.ev 1 rfl)) rfl (fun _ _ => rfl) (kM [false, true, true, true, true, true] rfl rfl) (by decide) ?_
    have hi18 : i < D.uns.length := by omega
    obtain ⟨g19, cap20, cur21, hv23, rfl, hB22⟩ := hO15.open (by omega)
    obtain ⟨rfl, rfl⟩ : A9 = some ⟨g19, 0, none⟩ ∧ c11 = cap20 := by injection hv23 with h1 h2 h3; exact ⟨h1, h3⟩
    have := hB22.le
    have hj26 : i < D.uns.length := by first | exact hi18 | (simp only [List.length_drop, List.length_take]; omega) | omega
    obtain ⟨x24, hx25⟩ := get_at D.uns i hj26
    refine pxV (v := (.pointer (some ⟨g19, 0 + i * 65, none⟩))) (fun _ _ hF => opIndex (i := i) (e := 73) (sz := 65) rfl (by kernel_rfl) (by kernel_rfl) (hF.ev 3 rfl) (hF.ev 1 rfl) rfl hi18) rfl (fun _ _ => rfl) (kA rfl) (by decide) ?_
    refine pxS (v := (cChg.val x24)) (fun w => w.heap[g19]? = some (.cells cur21 73 (0, 0))) (hH.blk 3 rfl) (fun _ _ hF hS => opLoadT (C := cChg) (y := x24) rfl (hF.ev 0 rfl) (by kernel_rfl) ((hB22.holdsL hS) i _ hx25) rfl) rfl (fun _ _ => rfl) (kM [false, true, true, true, true, true, true] rfl rfl) (by decide) ?_
    refine pxM hH (fun _ hF => smAlloc (cs := cChg.enc (0, fun _ => 0)) (z := (cChg.val (0, fun _ => 0))) rfl (by kernel_rfl) rfl) trivial rfl (fun _ _ => rfl) (kA rfl) (by decide) ?_
    clear hH
    rintro _ _ w ⟨g27, rfl, rfl⟩ hH
    replace hH : HH w0 (bks E) [[bl g 55 #[(.slice A1 D.now.length c3), (.slice A5 D.syn.length c7), (.slice (some ⟨g19, 0, none⟩) D.uns.length c11), (.bool (D.down)), (.bool (D.fused)), (.int .i64 (D.left))]], E4, E2, [bl g19 73 cur21], [bl g27 73 (cChg.enc (0, fun _ => 0))]] w := hH
    refine pxV (v := (.int .i64 (((i) : Nat) : Int))) (fun _ _ hF => opAssign rfl (hF.ev 2 rfl)) rfl (fun _ _ => rfl) (kM [true, true, false, true, true, true, true, true] rfl rfl) (by decide) ?_
    refine pxE0 4 hH rfl (fun _ hF => smStoreT (C := cChg) (z := x24) rfl (hF.ev 1 rfl) (hF.ev 2 rfl) rfl (by kernel_rfl) (by rw [Cod.size]; exact Nat.le_refl _) (put_whole cChg _ _)) trivial rfl (fun _ _ => rfl) ?_
    clear hH
    rintro _ _ w rfl hH
    replace hH : HH w0 (bks E) [[bl g 55 #[(.slice A1 D.now.length c3), (.slice A5 D.syn.length c7), (.slice (some ⟨g19, 0, none⟩) D.uns.length c11), (.bool (D.down)), (.bool (D.fused)), (.int .i64 (D.left))]], E4, E2, [bl g19 73 cur21], [bl g27 73 (cChg.enc x24)]] w := hH
    refine pxEnd ?_
    refine qxThen ?_
    refine cxSeq ?_
    refine cxReg ?_
    refine pxV (v := (.slice A keep.length c)) (fun _ _ hF => opMove rfl (hF.ev 6 rfl)) rfl (fun _ _ => rfl) (kM [true, true, false, true, true, true, true, true] rfl rfl) (by decide) ?_
    refine pxV (v := (.int .i64 (((i) : Nat) : Int))) (fun _ _ hF => opMove rfl (hF.ev 1 rfl)) rfl (fun _ _ => rfl) (kM [true, false, true, true, true, true, true, true] rfl rfl) (by decide) ?_
    refine pxV (v := (.slice A keep.length c)) (fun _ _ hF => opMove rfl (hF.ev 6 rfl)) rfl (fun _ _ => rfl) (kA rfl) (by decide) ?_
    refine pxV (v := (.int .i64 (((keep.length) : Nat) : Int))) (fun _ _ hF => opLen (e := 4) rfl (by kernel_rfl) (hF.ev 0 rfl)) rfl (fun _ _ => rfl) (kM [false, true, true, true, true, true, true, true, true] rfl rfl) (by decide) ?_
    refine pxV (v := (.int .i64 (((i % keep.length) : Nat) : Int))) (fun _ _ hF => opRem (z := ((i % keep.length : Nat) : Int)) rfl (hF.ev 1 rfl) (hF.ev 0 rfl) (by omega) remN) rfl (fun _ _ => rfl) (kM [false, false, true, true, true, true, true, true, true] rfl rfl) (by decide) ?_
    have hi28 : i % keep.length < keep.length := Nat.mod_lt _ hk
    obtain ⟨b29, off30, rfl, hL31, hb32, hR33⟩ := hR.blk (by decide) hA (by omega)
    have := hR.cap
    have hj36 : i % keep.length < keep.length := by first | exact hi28 | (simp only [List.length_drop, List.length_take]; omega) | omega
    obtain ⟨x34, hx35⟩ := get_at keep (i % keep.length) hj36
    refine pxV (v := (.pointer (some ⟨b29, off30 + (i % keep.length) * 1, none⟩))) (fun _ _ hF => opIndex (i := i % keep.length) (e := 4) (sz := 1) rfl (by kernel_rfl) (by kernel_rfl) (hF.ev 1 rfl) (hF.ev 0 rfl) rfl hi28) rfl (fun _ _ => rfl) (kM [false, false, true, true, true, true, true, true] rfl rfl) (by decide) ?_
    refine pxS (v := (.bool (x34))) (fun w => HoldsL cBool w b29 off30 keep) (hH.holdsL hL31 hb32 hR33) (fun _ _ hF hS => opLoadT (C := cBool) (y := x34) rfl (hF.ev 0 rfl) (by kernel_rfl) (hS (i % keep.length) _ hx35) rfl) rfl (fun _ _ => rfl) (kM [false, true, true, true, true, true, true] rfl rfl) (by decide) ?_
    refine pxEnd ?_
    refine qxThen ?_
    refine cxB 0 rfl rfl (fun hc37 => ?_) (fun hc37 => ?_)
    · have hxb := hok.uns _ (List.mem_of_getElem? hx25)
      refine cxRegX mixedOrders (by kernel_rfl) ?_
      replace hH := hH.drew
      refine rxV 0 rfl (by kernel_rfl) rfl (fun _ _ => rfl) (fun _ _ hF => opMove rfl (hF.ev 6 rfl)) (kM [false, true, true, true, true, true, true] rfl rfl) (by decide) (v := (.pointer (some ⟨g, 0, none⟩))) ?_
      refine rxV 1 rfl (by kernel_rfl) rfl (fun _ _ => rfl) (fun _ _ hF => opNilCheck rfl (hF.ev 0 rfl)) (kM [false, true, true, true, true, true, true] rfl rfl) (by decide) (v := (.pointer (some ⟨g, 0, none⟩))) ?_
      refine rxV 2 rfl (by kernel_rfl) rfl (fun _ _ => rfl) (fun _ _ hF => opField (off := 1) rfl (hF.ev 0 rfl) (by kernel_rfl)) (kM [false, true, true, true, true, true, true] rfl rfl) (by decide) (v := (.pointer (some ⟨g, 1, none⟩))) ?_
      refine rxS (fun w => w.heap[g]? = some (.cells #[(.slice A1 D.now.length c3), (.slice A5 D.syn.length c7), (.slice (some ⟨g19, 0, none⟩) D.uns.length c11), (.bool (D.down)), (.bool (D.fused)), (.int .i64 (D.left))] 55 (0, 0))) 3 rfl (by kernel_rfl) rfl (fun _ _ => rfl) (hH.blk 0 rfl) (fun _ _ hF hS => opLoadK hS rfl (hF.ev 0 rfl) (by kernel_rfl) rfl) (kM [false, true, true, true, true, true, true] rfl rfl) (by decide) (v := (.slice A5 D.syn.length c7)) ?_
      refine rxV 4 rfl (by kernel_rfl) rfl (fun _ _ => rfl) (fun _ _ hF => opField (off := 0) rfl (hF.ev 1 rfl) (by kernel_rfl)) (kA rfl) (by decide) (v := (.pointer (some ⟨g27, 0, none⟩))) ?_
      refine rxS (fun w => w.heap[g27]? = some (.cells (cChg.enc x24) 73 (0, 0))) 5 rfl (by kernel_rfl) rfl (fun _ _ => rfl) (hH.blk 4 rfl) (fun _ _ hF hS => opLoadT (C := (cNat .i64)) (y := x24.1) rfl (hF.ev 0 rfl) (by kernel_rfl) (holds_blk0 hS).fst rfl) (kM [false, true, true, true, true, true, true, true] rfl rfl) (by decide) (v := (.int .i64 (((x24.1) : Nat) : Int))) ?_
      refine rxV 6 rfl (by kernel_rfl) rfl (fun _ _ => rfl) (fun _ _ hF => opField (off := 1) rfl (hF.ev 2 rfl) (by kernel_rfl)) (kM [true, true, false, true, true, true, true, true] rfl rfl) (by decide) (v := (.pointer (some ⟨g27, 1, none⟩))) ?_
      refine rxS (fun w => w.heap[g27]? = some (.cells (cChg.enc x24) 73 (0, 0))) 7 rfl (by kernel_rfl) rfl (fun _ _ => rfl) (hH.blk 4 rfl) (fun _ _ hF hS => opLoadT (C := cSec) (y := x24.2) rfl (hF.ev 0 rfl) (by kernel_rfl) (holds_blk0 hS).snd rfl) (kM [false, true, true, true, true, true, true, true] rfl rfl) (by decide) (v := (cSec.val x24.2)) ?_
      have hi38 : x24.1 < D.syn.length := by omega
      obtain ⟨g39, cap40, cur41, hv43, rfl, hB42⟩ := hO2.open (by omega)
      obtain ⟨rfl, rfl⟩ : A5 = some ⟨g39, 0, none⟩ ∧ c7 = cap40 := by injection hv43 with h1 h2 h3; exact ⟨h1, h3⟩
      have := hB42.le
      have hj46 : x24.1 < S.length := by first | exact hi38 | (simp only [List.length_drop, List.length_take]; omega) | omega
      obtain ⟨x44, hx45⟩ := get_at S x24.1 hj46
      refine rxV 8 rfl (by kernel_rfl) rfl (fun _ _ => rfl) (fun _ _ hF => opIndex (i := x24.1) (e := 71) (sz := 64) rfl (by kernel_rfl) (by kernel_rfl) (hF.ev 2 rfl) (hF.ev 1 rfl) rfl hi38) (kM [true, false, false, true, true, true, true, true] rfl rfl) (by decide) (v := (.pointer (some ⟨g39, 0 + x24.1 * 64, none⟩))) ?_
      refine rx1 9 (by kernel_rfl) ?_
      obtain ⟨cur48, hcs49, hB47⟩ : ∃ cs, putL cur41 (0 + x24.1 * 64) (cSec.enc x24.2).toList = cs ∧ Bk cSec c7 cs (S.set x24.1 x24.2) := ⟨_, rfl, put_at hB42 x24.1 hj46 x24.2⟩
      refine moE0 2 rfl hH rfl (fun _ hF => smStoreT (C := cSec) (z := x24.2) rfl (hF.ev 0 rfl) (hF.ev 1 rfl) rfl (by kernel_rfl) (room_at hB42 hj46) hcs49) trivial rfl (fun _ _ => rfl) (PendOk.go [] (by kernel_rfl) (PendOk.go [] (by kernel_rfl) (PendOk.go [] (by kernel_rfl) (PendOk.nil _ [])))) ?_
      clear hH
      rintro _ _ w rfl hH
      replace hH : HH w0 (bks E) [[bl g 55 #[(.slice A1 D.now.length c3), (.slice (some ⟨g39, 0, none⟩) D.syn.length c7), (.slice (some ⟨g19, 0, none⟩) D.uns.length c11), (.bool (D.down)), (.bool (D.fused)), (.int .i64 (D.left))]], E4, [bl g39 71 cur48], [bl g19 73 cur21], [bl g27 73 (cChg.enc x24)]] w := hH
      refine ⟨(fun _ hs => by cases hs), ?_⟩
      refine rxEnd (by kernel_rfl) ?_
      refine qxInN ?_
      refine qxThen ?_
      refine cxReg ?_
      refine pxV (v := (.int .i64 (((i + 1) : Nat) : Int))) (fun _ _ hF => opAdd rfl (hF.ev 2 rfl) rfl (wI (by omega) (by omega) (by omega))) rfl (fun _ _ => rfl) (kM [false, false, false, true, true, true, true] rfl rfl) (by decide) ?_
      refine pxV (v := (.int .i64 (((i + 1) : Nat) : Int))) (fun _ _ hF => opMove rfl (hF.ev 0 rfl)) rfl (fun _ _ => rfl) (kM [false, true, true, true, true] rfl rfl) (by decide) ?_
      refine pxEnd ?_
      replace hH : HH w0 (bks E) [[bl g 55 #[(.slice A1 D.now.length c3), (.slice (some ⟨g39, 0, none⟩) D.syn.length c7), (.slice (some ⟨g19, 0, none⟩) D.uns.length c11), (.bool (D.down)), (.bool (D.fused)), (.int .i64 (D.left))]], E4, [bl g39 71 cur48], [bl g19 73 cur21]] w := hH.only [true, true, true, true, false]
      exact qxRound (i + 1, (S.set x24.1 x24.2), [bl g39 71 cur48]) ⟨hH, (show (i + 1) ≤ D.uns.length from (by omega)), (hB47.own 71 g39 (by rw [List.length_set]; exact hS)), (by rw [List.length_set]; exact hS), (by rw [hsy, synced_step hx25 hx35, hc37]; rfl)⟩ (by omega) (slots_at [0, 1, 2, 3, 4] rfl)
    · refine cxSkip ?_
      refine qxInN ?_
      refine qxThen ?_
      refine cxReg ?_
      refine pxV (v := (.int .i64 (((i + 1) : Nat) : Int))) (fun _ _ hF => opAdd rfl (hF.ev 2 rfl) rfl (wI (by omega) (by omega) (by omega))) rfl (fun _ _ => rfl) (kM [false, false, false, true, true, true, true] rfl rfl) (by decide) ?_
      refine pxV (v := (.int .i64 (((i + 1) : Nat) : Int))) (fun _ _ hF => opMove rfl (hF.ev 0 rfl)) rfl (fun _ _ => rfl) (kM [false, true, true, true, true] rfl rfl) (by decide) ?_
      refine pxEnd ?_
      replace hH : HH w0 (bks E) [[bl g 55 #[(.slice A1 D.now.length c3), (.slice A5 D.syn.length c7), (.slice (some ⟨g19, 0, none⟩) D.uns.length c11), (.bool (D.down)), (.bool (D.fused)), (.int .i64 (D.left))]], E4, E2, [bl g19 73 cur21]] w := hH.only [true, true, true, true, false]
      exact qxRound (i + 1, S, E2) ⟨hH, (show (i + 1) ≤ D.uns.length from (by omega)), hO2, hS, (by rw [hsy, synced_step hx25 hx35, hc37]; rfl)⟩ (by omega) (slots_at [0, 1, 2, 3, 4] rfl)
  · refine cxExit ?_
    refine qxThenE ?_
    refine qxThenE ?_
    refine qxInE ?_
    refine qxThen ?_
    refine cxSeq ?_
    refine cxSeq ?_
    refine cxReg ?_
    refine pxV (v := (.pointer (some ⟨g, 0, none⟩))) (fun _ _ hF => opMove rfl (hF.ev 5 rfl)) rfl (fun _ _ => rfl) (kM [false, false, false, false, false, true] rfl rfl) (by decide) ?_
    refine pxV (v := (.pointer (some ⟨g, 0, none⟩))) (fun _ _ hF => opNilCheck rfl (hF.ev 0 rfl)) rfl (fun _ _ => rfl) (kM [false, true] rfl rfl) (by decide) ?_
    refine pxV (v := (.pointer (some ⟨g, 2, none⟩))) (fun _ _ hF => opField (off := 2) rfl (hF.ev 0 rfl) (by kernel_rfl)) rfl (fun _ _ => rfl) (kM [false, true] rfl rfl) (by decide) ?_
    refine pxS (v := (.slice A9 D.uns.length c11)) (fun w => w.heap[g]? = some (.cells #[(.slice A1 D.now.length c3), (.slice A5 D.syn.length c7), (.slice A9 D.uns.length c11), (.bool (D.down)), (.bool (D.fused)), (.int .i64 (D.left))] 55 (0, 0))) (hH.blk 0 rfl) (fun _ _ hF hS => opLoadK hS rfl (hF.ev 0 rfl) (by kernel_rfl) rfl) rfl (fun _ _ => rfl) (kM [false, true] rfl rfl) (by decide) ?_
    refine pxV (v := (.int .i64 (((D.uns.length) : Nat) : Int))) (fun _ _ hF => opLen (e := 73) rfl (by kernel_rfl) (hF.ev 0 rfl)) rfl (fun _ _ => rfl) (kA rfl) (by decide) ?_
    refine pxV (v := (.int .i64 0)) (fun _ _ hF => opMove rfl rfl) rfl (fun _ _ => rfl) (kA rfl) (by decide) ?_
    refine pxEnd ?_
    refine qxThen ?_
    refine cxBlock ?_
    refine cxLoop (σ := Nat × (List Sec) × Hl) (fun x => [(40, (.int .i64 (((x.1) : Nat) : Int))), (39, (.int .i64 (((D.uns.length) : Nat) : Int))), (38, (.slice A9 D.uns.length c11)), (0, (.pointer (some ⟨g, 0, none⟩)))]) (fun x w => HH w0 (bks E) [[bl g 55 #[(.slice A1 D.now.length c3), (.slice A5 D.syn.length c7), (.slice A9 D.uns.length c11), (.bool (D.down)), (.bool (D.fused)), (.int .i64 (D.left))]], x.2.2, E2, E12] w ∧ (x.1 ≤ D.uns.length) ∧ (OwnT cSec 71 (.slice A1 D.now.length c3) x.2.1 x.2.2) ∧ (x.2.1.length = D.now.length) ∧ (back S D.uns D.now = back S (D.uns.drop x.1) x.2.1)) (fun x => D.uns.length - x.1) (0, D.now, E4) ⟨hH, (Nat.zero_le _), hO13, rfl, rfl⟩ (slots_at [0, 1, 2, 3] rfl) ?_
    clear hH
    rintro ⟨j, N, E1⟩ w ⟨hH, hj, hO1, hN, hba⟩
    change CX _ _ _ _ [(40, (.int .i64 (((j) : Nat) : Int))), (39, (.int .i64 (((D.uns.length) : Nat) : Int))), (38, (.slice A9 D.uns.length c11)), (0, (.pointer (some ⟨g, 0, none⟩)))] _
    replace hH : HH w0 (bks E) [[bl g 55 #[(.slice A1 D.now.length c3), (.slice A5 D.syn.length c7), (.slice A9 D.uns.length c11), (.bool (D.down)), (.bool (D.fused)), (.int .i64 (D.left))]], E1, E2, E12] w := hH
    replace hj : j ≤ D.uns.length := hj
    replace hO1 : OwnT cSec 71 (.slice A1 D.now.length c3) N E1 := hO1
    replace hN : N.length = D.now.length := hN
    replace hba : back S D.uns D.now = back S (D.uns.drop j) N := hba
    refine cxSeq ?_
    refine cxReg ?_
    refine pxV (v := (.bool (decide (j < D.uns.length)))) (fun _ _ hF => opLss rfl (hF.ev 0 rfl) (hF.ev 1 rfl) (dc (by omega))) rfl (fun _ _ => rfl) (kA rfl) (by decide) ?_
    refine pxEnd ?_
    refine qxThen ?_
    refine cxSeq ?_
    refine cxP 0 rfl rfl (fun hc50 => ?_) (fun hc50 => ?_)
    · refine cxSkip ?_
      refine qxThen ?_
      refine cxSeq ?_
      refine cxBlock ?_
      refine cxSeq ?_
      refine cxReg ?_
      have hi51 : j < D.uns.length := by omega
      obtain ⟨g52, cap53, cur54, hv56, rfl, hB55⟩ := hO15.open (by omega)
      obtain ⟨rfl, rfl⟩ : A9 = some ⟨g52, 0, none⟩ ∧ c11 = cap53 := by injection hv56 with h1 h2 h3; exact ⟨h1, h3⟩
      have := hB55.le
      have hj59 : j < D.uns.length := by first | exact hi51 | (simp only [List.length_drop, List.length_take]; omega) | omega
      obtain ⟨x57, hx58⟩ := get_at D.uns j hj59
      refine pxV (v := (.pointer (some ⟨g52, 0 + j * 65, none⟩))) (fun _ _ hF => opIndex (i := j) (e := 73) (sz := 65) rfl (by kernel_rfl) (by kernel_rfl) (hF.ev 3 rfl) (hF.ev 1 rfl) rfl hi51) rfl (fun _ _ => rfl) (kM [false, true, true, true, true] rfl rfl) (by decide) ?_
      refine pxS (v := (cChg.val x57)) (fun w => w.heap[g52]? = some (.cells cur54 73 (0, 0))) (hH.blk 3 rfl) (fun _ _ hF hS => opLoadT (C := cChg) (y := x57) rfl (hF.ev 0 rfl) (by kernel_rfl) ((hB55.holdsL hS) j _ hx58) rfl) rfl (fun _ _ => rfl) (kM [false, true, true, true, true] rfl rfl) (by decide) ?_
      refine pxM hH (fun _ hF => smAlloc (cs := cChg.enc (0, fun _ => 0)) (z := (cChg.val (0, fun _ => 0))) rfl (by kernel_rfl) rfl) trivial rfl (fun _ _ => rfl) (kA rfl) (by decide) ?_
      clear hH
      rintro _ _ w ⟨g60, rfl, rfl⟩ hH
      replace hH : HH w0 (bks E) [[bl g 55 #[(.slice A1 D.now.length c3), (.slice A5 D.syn.length c7), (.slice (some ⟨g52, 0, none⟩) D.uns.length c11), (.bool (D.down)), (.bool (D.fused)), (.int .i64 (D.left))]], E1, E2, [bl g52 73 cur54], [bl g60 73 (cChg.enc (0, fun _ => 0))]] w := hH
      refine pxE0 4 hH rfl (fun _ hF => smStoreT (C := cChg) (z := x57) rfl (hF.ev 0 rfl) (hF.ev 1 rfl) rfl (by kernel_rfl) (by rw [Cod.size]; exact Nat.le_refl _) (put_whole cChg _ _)) trivial rfl (fun _ _ => rfl) ?_
      clear hH
      rintro _ _ w rfl hH
      replace hH : HH w0 (bks E) [[bl g 55 #[(.slice A1 D.now.length c3), (.slice A5 D.syn.length c7), (.slice (some ⟨g52, 0, none⟩) D.uns.length c11), (.bool (D.down)), (.bool (D.fused)), (.int .i64 (D.left))]], E1, E2, [bl g52 73 cur54], [bl g60 73 (cChg.enc x57)]] w := hH
      refine pxEnd ?_
      refine qxThen ?_
      have hxb := hok.uns _ (List.mem_of_getElem? hx58)
      refine cxRegX mixedOrders (by kernel_rfl) ?_
      replace hH := hH.drew
      refine rxV 0 rfl (by kernel_rfl) rfl (fun _ _ => rfl) (fun _ _ hF => opMove rfl (hF.ev 5 rfl)) (kM [true, false, true, true, true, true] rfl rfl) (by decide) (v := (.pointer (some ⟨g, 0, none⟩))) ?_
      refine rxV 1 rfl (by kernel_rfl) rfl (fun _ _ => rfl) (fun _ _ hF => opNilCheck rfl (hF.ev 0 rfl)) (kM [false, true, true, true, true, true] rfl rfl) (by decide) (v := (.pointer (some ⟨g, 0, none⟩))) ?_
      refine rxV 2 rfl (by kernel_rfl) rfl (fun _ _ => rfl) (fun _ _ hF => opField (off := 0) rfl (hF.ev 0 rfl) (by kernel_rfl)) (kM [false, true, true, true, true, true] rfl rfl) (by decide) (v := (.pointer (some ⟨g, 0, none⟩))) ?_
      refine rxS (fun w => w.heap[g]? = some (.cells #[(.slice A1 D.now.length c3), (.slice A5 D.syn.length c7), (.slice (some ⟨g52, 0, none⟩) D.uns.length c11), (.bool (D.down)), (.bool (D.fused)), (.int .i64 (D.left))] 55 (0, 0))) 3 rfl (by kernel_rfl) rfl (fun _ _ => rfl) (hH.blk 0 rfl) (fun _ _ hF hS => opLoadK hS rfl (hF.ev 0 rfl) (by kernel_rfl) rfl) (kM [false, true, true, true, true, true] rfl rfl) (by decide) (v := (.slice A1 D.now.length c3)) ?_
      refine rxV 4 rfl (by kernel_rfl) rfl (fun _ _ => rfl) (fun _ _ hF => opField (off := 0) rfl (hF.ev 1 rfl) (by kernel_rfl)) (kA rfl) (by decide) (v := (.pointer (some ⟨g60, 0, none⟩))) ?_
      refine rxS (fun w => w.heap[g60]? = some (.cells (cChg.enc x57) 73 (0, 0))) 5 rfl (by kernel_rfl) rfl (fun _ _ => rfl) (hH.blk 4 rfl) (fun _ _ hF hS => opLoadT (C := (cNat .i64)) (y := x57.1) rfl (hF.ev 0 rfl) (by kernel_rfl) (holds_blk0 hS).fst rfl) (kM [false, true, true, true, true, true, true] rfl rfl) (by decide) (v := (.int .i64 (((x57.1) : Nat) : Int))) ?_
      refine rxV 6 rfl (by kernel_rfl) rfl (fun _ _ => rfl) (fun _ _ hF => opMove rfl (hF.ev 6 rfl)) (kA rfl) (by decide) (v := (.pointer (some ⟨g, 0, none⟩))) ?_
      refine rxV 7 rfl (by kernel_rfl) rfl (fun _ _ => rfl) (fun _ _ hF => opNilCheck rfl (hF.ev 0 rfl)) (kM [false, true, true, true, true, true, true, true] rfl rfl) (by decide) (v := (.pointer (some ⟨g, 0, none⟩))) ?_
      refine rxV 8 rfl (by kernel_rfl) rfl (fun _ _ => rfl) (fun _ _ hF => opField (off := 1) rfl (hF.ev 0 rfl) (by kernel_rfl)) (kM [false, true, true, true, true, true, true, true] rfl rfl) (by decide) (v := (.pointer (some ⟨g, 1, none⟩))) ?_
      refine rxS (fun w => w.heap[g]? = some (.cells #[(.slice A1 D.now.length c3), (.slice A5 D.syn.length c7), (.slice (some ⟨g52, 0, none⟩) D.uns.length c11), (.bool (D.down)), (.bool (D.fused)), (.int .i64 (D.left))] 55 (0, 0))) 9 rfl (by kernel_rfl) rfl (fun _ _ => rfl) (hH.blk 0 rfl) (fun _ _ hF hS => opLoadK hS rfl (hF.ev 0 rfl) (by kernel_rfl) rfl) (kM [false, true, true, true, true, true, true, true] rfl rfl) (by decide) (v := (.slice A5 D.syn.length c7)) ?_
      refine rxV 10 rfl (by kernel_rfl) rfl (fun _ _ => rfl) (fun _ _ hF => opField (off := 0) rfl (hF.ev 3 rfl) (by kernel_rfl)) (kM [true, true, true, false, true, true, true, true] rfl rfl) (by decide) (v := (.pointer (some ⟨g60, 0, none⟩))) ?_
      refine rxS (fun w => w.heap[g60]? = some (.cells (cChg.enc x57) 73 (0, 0))) 11 rfl (by kernel_rfl) rfl (fun _ _ => rfl) (hH.blk 4 rfl) (fun _ _ hF hS => opLoadT (C := (cNat .i64)) (y := x57.1) rfl (hF.ev 0 rfl) (by kernel_rfl) (holds_blk0 hS).fst rfl) (kM [false, true, true, true, true, true, true, true] rfl rfl) (by decide) (v := (.int .i64 (((x57.1) : Nat) : Int))) ?_
      have hi61 : x57.1 < D.syn.length := by omega
      obtain ⟨g62, cap63, cur64, hv66, rfl, hB65⟩ := hO2.open (by omega)
      obtain ⟨rfl, rfl⟩ : A5 = some ⟨g62, 0, none⟩ ∧ c7 = cap63 := by injection hv66 with h1 h2 h3; exact ⟨h1, h3⟩
      have := hB65.le
      have hj69 : x57.1 < S.length := by first | exact hi61 | (simp only [List.length_drop, List.length_take]; omega) | omega
      obtain ⟨x67, hx68⟩ := get_at S x57.1 hj69
      refine rxV 12 rfl (by kernel_rfl) rfl (fun _ _ => rfl) (fun _ _ hF => opIndex (i := x57.1) (e := 71) (sz := 64) rfl (by kernel_rfl) (by kernel_rfl) (hF.ev 1 rfl) (hF.ev 0 rfl) rfl hi61) (kM [false, false, true, true, true, true, true, true] rfl rfl) (by decide) (v := (.pointer (some ⟨g62, 0 + x57.1 * 64, none⟩))) ?_
      refine rxS (fun w => w.heap[g62]? = some (.cells cur64 71 (0, 0))) 13 rfl (by kernel_rfl) rfl (fun _ _ => rfl) (hH.blk 2 rfl) (fun _ _ hF hS => opLoadT (C := cSec) (y := x67) rfl (hF.ev 0 rfl) (by kernel_rfl) ((hB65.holdsL hS) x57.1 _ hx68) rfl) (kM [false, true, true, true, true, true, true] rfl rfl) (by decide) (v := (cSec.val x67)) ?_
      have hi70 : x57.1 < D.now.length := by omega
      obtain ⟨g71, cap72, cur73, hv75, rfl, hB74⟩ := hO1.open (by omega)
      obtain ⟨rfl, rfl⟩ : A1 = some ⟨g71, 0, none⟩ ∧ c3 = cap72 := by injection hv75 with h1 h2 h3; exact ⟨h1, h3⟩
      have := hB74.le
      have hj78 : x57.1 < N.length := by first | exact hi70 | (simp only [List.length_drop, List.length_take]; omega) | omega
      obtain ⟨x76, hx77⟩ := get_at N x57.1 hj78
      refine rxV 14 rfl (by kernel_rfl) rfl (fun _ _ => rfl) (fun _ _ hF => opIndex (i := x57.1) (e := 71) (sz := 64) rfl (by kernel_rfl) (by kernel_rfl) (hF.ev 2 rfl) (hF.ev 1 rfl) rfl hi70) (kM [true, false, false, true, true, true, true] rfl rfl) (by decide) (v := (.pointer (some ⟨g71, 0 + x57.1 * 64, none⟩))) ?_
      refine rx1 15 (by kernel_rfl) ?_
      obtain ⟨cur80, hcs81, hB79⟩ : ∃ cs, putL cur73 (0 + x57.1 * 64) (cSec.enc x67).toList = cs ∧ Bk cSec c3 cs (N.set x57.1 x67) := ⟨_, rfl, put_at hB74 x57.1 hj78 x67⟩
      refine moE0 1 rfl hH rfl (fun _ hF => smStoreT (C := cSec) (z := x67) rfl (hF.ev 0 rfl) (hF.ev 1 rfl) rfl (by kernel_rfl) (room_at hB74 hj78) hcs81) trivial rfl (fun _ _ => rfl) (PendOk.go [] (by kernel_rfl) (PendOk.go [] (by kernel_rfl) (PendOk.go [] (by kernel_rfl) (PendOk.go [] (by kernel_rfl) (PendOk.go [] (by kernel_rfl) (PendOk.nil _ [])))))) ?_
      clear hH
      rintro _ _ w rfl hH
      replace hH : HH w0 (bks E) [[bl g 55 #[(.slice (some ⟨g71, 0, none⟩) D.now.length c3), (.slice (some ⟨g62, 0, none⟩) D.syn.length c7), (.slice (some ⟨g52, 0, none⟩) D.uns.length c11), (.bool (D.down)), (.bool (D.fused)), (.int .i64 (D.left))]], [bl g71 71 cur80], [bl g62 71 cur64], [bl g52 73 cur54], [bl g60 73 (cChg.enc x57)]] w := hH
      refine ⟨(fun _ hs => by cases hs), ?_⟩
      refine rxEnd (by kernel_rfl) ?_
      refine qxInN ?_
      refine qxThen ?_
      refine cxReg ?_
      refine pxV (v := (.int .i64 (((j + 1) : Nat) : Int))) (fun _ _ hF => opAdd rfl (hF.ev 2 rfl) rfl (wI (by omega) (by omega) (by omega))) rfl (fun _ _ => rfl) (kM [false, false, false, true, true, true] rfl rfl) (by decide) ?_
      refine pxV (v := (.int .i64 (((j + 1) : Nat) : Int))) (fun _ _ hF => opMove rfl (hF.ev 0 rfl)) rfl (fun _ _ => rfl) (kM [false, true, true, true] rfl rfl) (by decide) ?_
      refine pxEnd ?_
      replace hH : HH w0 (bks E) [[bl g 55 #[(.slice (some ⟨g71, 0, none⟩) D.now.length c3), (.slice (some ⟨g62, 0, none⟩) D.syn.length c7), (.slice (some ⟨g52, 0, none⟩) D.uns.length c11), (.bool (D.down)), (.bool (D.fused)), (.int .i64 (D.left))]], [bl g71 71 cur80], [bl g62 71 cur64], [bl g52 73 cur54]] w := hH.only [true, true, true, true, false]
      exact qxRound (j + 1, (N.set x57.1 x67), [bl g71 71 cur80]) ⟨hH, (show (j + 1) ≤ D.uns.length from (by omega)), (hB79.own 71 g71 (by rw [List.length_set]; exact hN)), (by rw [List.length_set]; exact hN), (by rw [hba, back_step hx58 hx68])⟩ (by omega) (slots_at [0, 1, 2, 3] rfl)
    · refine cxExit ?_
      refine qxThenE ?_
      refine qxThenE ?_
      refine qxInE ?_
      refine qxThen ?_
      refine cxReg ?_
      refine pxV (v := (.pointer (some ⟨g, 0, none⟩))) (fun _ _ hF => opMove rfl (hF.ev 4 rfl)) rfl (fun _ _ => rfl) (kM [false, false, false, false, false] rfl rfl) (by decide) ?_
      refine pxV (v := (.pointer (some ⟨g, 0, none⟩))) (fun _ _ hF => opNilCheck rfl (hF.ev 0 rfl)) rfl (fun _ _ => rfl) (kM [false] rfl rfl) (by decide) ?_
      refine pxV (v := (.pointer (some ⟨g, 2, none⟩))) (fun _ _ hF => opField (off := 2) rfl (hF.ev 0 rfl) (by kernel_rfl)) rfl (fun _ _ => rfl) (kM [false] rfl rfl) (by decide) ?_
      refine pxE0 0 hH rfl (fun _ hF => smStore (v := (.slice none 0 0)) rfl (hF.ev 0 rfl) rfl (by kernel_rfl) (ltb rfl) rfl rfl) trivial rfl (fun _ _ => rfl) ?_
      clear hH
      rintro _ _ w rfl hH
      replace hH : HH w0 (bks E) [[bl g 55 #[(.slice A1 D.now.length c3), (.slice A5 D.syn.length c7), (.slice none 0 0), (.bool (D.down)), (.bool (D.fused)), (.int .i64 (D.left))]], E1, E2, E12] w := hH
      refine pxEnd ?_
      refine qxEnd0 rfl ?_
      replace hH := hH.forget 3
      replace hH : HH w0 (bks E) [[bl g 55 #[(.slice A1 D.now.length c3), (.slice A5 D.syn.length c7), (.slice none 0 0), (.bool (D.down)), (.bool (D.fused)), (.int .i64 (D.left))]], E1, E2, []] w := hH
      have e1 : synced keep 0 D.uns D.syn = S := by rw [hsy, List.drop_eq_nil_of_le (by omega)]; rfl
      have e2 : back S D.uns D.now = N := by rw [hba, List.drop_eq_nil_of_le (by omega)]; rfl
      have he : D.settle keep = ⟨N, S, [], D.down, D.fused, D.left⟩ := by unfold Dk.settle; rw [e1, e2]
      obtain ⟨E82, hE83, hD⟩ : ∃ E, E = ([[bl g 55 #[(.slice A1 D.now.length c3), (.slice A5 D.syn.length c7), (.slice none 0 0), (.bool (D.down)), (.bool (D.fused)), (.int .i64 (D.left))]], E1, E2, []] : List Hl).flatten ∧ DkAt g (⟨N, S, [], D.down, D.fused, D.left⟩) E := ⟨_, rfl, (he ▸ settle_ok hok keep), _, _, _, _, _, _, _, _, _, _, _, _, rfl, hO1, hO2, (OwnT.nil cChg 73)⟩
      replace hH : HH w0 (bks E) [E82] w := hH.cast (by rw [hE83]; simp)
      exact ⟨_, _, rfl, ⟨rfl, he ▸ hD⟩, hH.out1 [true] rfl⟩

def Dk.sync (D : Dk) : Nat × Dk := if D.down = true then (8, D) else if D.lasts.1 = true then (0, D.lasts.2.settle [true]) else (8, D.lasts.2)
def keepOf (keep : List Bool) : List Bool := if keep.length = 0 then [false] else keep
def Dk.crash (D : Dk) (keep : List Bool) : Dk := ({ D with down := false, fused := false, left := 0 } : Dk).settle (keepOf keep)
theorem lasts_uns (D : Dk) : D.lasts.2.uns = D.uns := by
  unfold Dk.lasts
  split
  · rfl
  · split <;> rfl
theorem lasts_down {D : Dk} (h : D.lasts.1 = true) : D.lasts.2.down = D.down := by
  unfold Dk.lasts at *
  split
  · rfl
  · rename_i h1
    rw [if_neg h1] at h
    split
    · rename_i h2; rw [if_pos h2] at h; cases h
    · rfl

set_option maxHeartbeats 8000000 in
theorem sync_c (g : Nat) (D : Dk) (E : Hl) (hD : DkAt g D E) (hU : D.uns.length ≤ 1000000) : Does Try.prog 42 #[(.pointer (some ⟨g, 0, none⟩))] E (fun _ => True) (fun v E' => v = .int .i64 (D.sync.1 : Int) ∧ DkAt g D.sync.2 E') := by
  refine does_of (fn := Try.f42) Try.func42 rfl Try.ntmps42 (Nat.le_of_ble_eq_true rfl) rfl ?_
  intro w0 hH hR
  refine cxSeq ?_
  refine cxReg ?_
  refine pxV (v := (.int .i64 0)) (fun _ _ hF => opAssign rfl rfl) rfl (fun _ _ => rfl) (kA rfl) (by decide) ?_
  refine pxEnd ?_
  refine qxThen ?_
  refine cxSeq ?_
  refine cxSeq ?_
  refine cxReg ?_
  refine pxV (v := (.pointer (some ⟨g, 0, none⟩))) (fun _ _ hF => opMove rfl (hF.ev 1 rfl)) rfl (fun _ _ => rfl) (kM [false, true] rfl rfl) (by decide) ?_
  refine pxV (v := (.bool false)) (fun _ _ hF => opEqNil (e := 55) rfl (by kernel_rfl) (hF.ev 0 rfl) rfl rfl) rfl (fun _ _ => rfl) (kM [false, true] rfl rfl) (by decide) ?_
  refine pxEnd ?_
  refine qxThen ?_
  refine cxF 0 rfl rfl ?_
  refine cxSkip ?_
  refine qxThen ?_
  refine cxSeq ?_
  refine cxSeq ?_
  refine cxReg ?_
  refine pxV (v := (.pointer (some ⟨g, 0, none⟩))) (fun _ _ hF => opMove rfl (hF.ev 1 rfl)) rfl (fun _ _ => rfl) (kM [false, true] rfl rfl) (by decide) ?_
  refine pxV (v := (.pointer (some ⟨g, 0, none⟩))) (fun _ _ hF => opNilCheck rfl (hF.ev 0 rfl)) rfl (fun _ _ => rfl) (kM [false, true] rfl rfl) (by decide) ?_
  refine pxV (v := (.pointer (some ⟨g, 3, none⟩))) (fun _ _ hF => opField (off := 3) rfl (hF.ev 0 rfl) (by kernel_rfl)) rfl (fun _ _ => rfl) (kM [false, true] rfl rfl) (by decide) ?_
  obtain ⟨A1, n2, c3, E4, A5, n6, c7, E8, A9, n10, c11, E12, hE16, hO13, hO14, hO15⟩ := hD.at'
  obtain rfl : n2 = D.now.length := hO13.len
  obtain rfl : n6 = D.syn.length := hO14.len
  obtain rfl : n10 = D.uns.length := hO15.len
  replace hH : HH w0 (bks E) [[bl g 55 #[(.slice A1 D.now.length c3), (.slice A5 D.syn.length c7), (.slice A9 D.uns.length c11), (.bool (D.down)), (.bool (D.fused)), (.int .i64 (D.left))]], E4, E8, E12] w0 := hH.cast (by rw [hE16]; simp)
  refine pxS (v := (.bool (D.down))) (fun w => w.heap[g]? = some (.cells #[(.slice A1 D.now.length c3), (.slice A5 D.syn.length c7), (.slice A9 D.uns.length c11), (.bool (D.down)), (.bool (D.fused)), (.int .i64 (D.left))] 55 (0, 0))) (hH.blk 0 rfl) (fun _ _ hF hS => opLoadK hS rfl (hF.ev 0 rfl) (by kernel_rfl) rfl) rfl (fun _ _ => rfl) (kM [false, true] rfl rfl) (by decide) ?_
  refine pxV (v := (.bool (D.down))) (fun _ _ hF => opMove rfl (hF.ev 0 rfl)) rfl (fun _ _ => rfl) (kM [false, true] rfl rfl) (by decide) ?_
  refine pxSplitB 0 rfl (l1 := [(9, (.bool true)), (0, (.pointer (some ⟨g, 0, none⟩)))]) (l2 := [(9, (.bool false)), (0, (.pointer (some ⟨g, 0, none⟩)))]) rfl rfl (fun hg17 => ?_) (fun hg17 => ?_)
  · refine pxU rfl (gOff 0 rfl rfl rfl (by decide)) (kA rfl) (by decide) ?_
    refine pxU rfl (gOff 0 rfl rfl rfl (by decide)) (kA rfl) (by decide) ?_
    refine pxU rfl (gOff 0 rfl rfl rfl (by decide)) (kA rfl) (by decide) ?_
    refine pxV (v := (.bool true)) (fun _ _ hF => opPickT rfl (hF.ev 0 rfl) rfl) rfl (fun _ _ => rfl) (kM [false, true] rfl rfl) (by decide) ?_
    refine pxEnd ?_
    refine qxThen ?_
    refine cxT 0 rfl rfl ?_
    refine cxSeq ?_
    refine cxReg ?_
    refine pxV (v := (.int .i64 8)) (fun _ _ hF => opAssign rfl rfl) rfl (fun _ _ => rfl) (kM [false, false] rfl rfl) (by decide) ?_
    refine pxEnd ?_
    refine qxThen ?_
    refine cxRet ?_
    refine qxThenR ?_
    refine qxRet1 0 rfl rfl ?_
    obtain ⟨E18, hE19, hD⟩ : ∃ E, E = ([[bl g 55 #[(.slice A1 D.now.length c3), (.slice A5 D.syn.length c7), (.slice A9 D.uns.length c11), (.bool (D.down)), (.bool (D.fused)), (.int .i64 (D.left))]], E4, E8, E12] : List Hl).flatten ∧ DkAt g D E := ⟨_, rfl, hD.ok, _, _, _, _, _, _, _, _, _, _, _, _, rfl, hO13, hO14, hO15⟩
    replace hH : HH w0 (bks E) [E18] w0 := hH.cast (by rw [hE19]; simp)
    have he : D.sync = (8, D) := by unfold Dk.sync; rw [if_pos hg17]
    exact ⟨_, _, rfl, ⟨by rw [he]; rfl, by rw [he]; exact hD⟩, hH.out1 [true] rfl⟩
  · refine pxV (v := (.pointer (some ⟨g, 0, none⟩))) (fun _ _ hF => opMove rfl (hF.ev 1 rfl)) rfl (gOn 0 rfl rfl rfl (by decide)) (kA rfl) (by decide) ?_
    obtain ⟨E20, hE21, hD⟩ : ∃ E, E = ([[bl g 55 #[(.slice A1 D.now.length c3), (.slice A5 D.syn.length c7), (.slice A9 D.uns.length c11), (.bool (D.down)), (.bool (D.fused)), (.int .i64 (D.left))]], E4, E8, E12] : List Hl).flatten ∧ DkAt g D E := ⟨_, rfl, hD.ok, _, _, _, _, _, _, _, _, _, _, _, _, rfl, hO13, hO14, hO15⟩
    replace hH : HH w0 (bks E) [E20] w0 := hH.cast (by rw [hE21]; simp)
    refine pxE 0 hH rfl (fun _ hF => Does.small (lasts_c g D E20 hD ) (fun w => opCall rfl Try.func35 rfl rfl (Evs.cons (v := (.pointer (some ⟨g, 0, none⟩))) (hF.ev 0 rfl) Evs.nil) w)) trivial rfl (gOn 1 rfl rfl rfl (by decide)) (kM [false, true, true] rfl rfl) (by decide) ?_
    clear hH
    rintro _ E22 w ⟨rfl, hD⟩ hH
    replace hH : HH w0 (bks E) [E22] w := hH
    refine pxV (v := (.bool (!(D.lasts.1)))) (fun _ _ hF => opNot rfl (hF.ev 0 rfl) rfl) rfl (gOn 1 rfl rfl rfl (by decide)) (kM [false, true, true] rfl rfl) (by decide) ?_
    refine pxV (v := (.bool (!(D.lasts.1)))) (fun _ _ hF => opPickF rfl (hF.ev 1 rfl) (hF.ev 0 rfl)) rfl (fun _ _ => rfl) (kM [false, false, true] rfl rfl) (by decide) ?_
    refine pxEnd ?_
    refine qxThen ?_
    refine cxB 0 rfl rfl (fun hc23 => ?_) (fun hc23 => ?_)
    · replace hc23 : D.lasts.1 = false := by simpa using hc23
      refine cxSeq ?_
      refine cxReg ?_
      refine pxV (v := (.int .i64 8)) (fun _ _ hF => opAssign rfl rfl) rfl (fun _ _ => rfl) (kM [false, false] rfl rfl) (by decide) ?_
      refine pxEnd ?_
      refine qxThen ?_
      refine cxRet ?_
      refine qxThenR ?_
      refine qxRet1 0 rfl rfl ?_
      have he : D.sync = (8, D.lasts.2) := by unfold Dk.sync; rw [if_neg (by simp [hg17]), if_neg (by simp [hc23])]
      exact ⟨_, _, rfl, ⟨by rw [he]; rfl, by rw [he]; exact hD⟩, hH.out1 [true] rfl⟩
    · replace hc23 : D.lasts.1 = true := by simpa using hc23
      refine cxSkip ?_
      refine qxThen ?_
      refine cxSeq ?_
      refine cxReg ?_
      refine pxV (v := (.pointer (some ⟨g, 0, none⟩))) (fun _ _ hF => opMove rfl (hF.ev 1 rfl)) rfl (fun _ _ => rfl) (kM [false, false] rfl rfl) (by decide) ?_
      refine pxM hH (fun _ hF => smLit1 (e := 4) (sz := 1) (z := (.bool false)) (by_ := 1) (cs := cBool.enc true) rfl (by kernel_rfl) (by kernel_rfl) rfl (cBool.len true) (ltb rfl) (leb rfl) rfl) trivial rfl (fun _ _ => rfl) (kA rfl) (by decide) ?_
      clear hH
      rintro _ _ w ⟨g24, rfl, rfl⟩ hH
      replace hH : HH w0 (bks E) [E22, [bl g24 4 (cBool.enc true)]] w := hH
      refine pxE 0 hH rfl (fun _ hF => Does.small (settle_c g D.lasts.2 E22 hD ([true]) (by first | exact Nat.zero_lt_one | omega) (some ⟨g24, 0, none⟩) 1 (hH.off2 0 1 rfl rfl rfl) (by rw [lasts_uns]; exact hU)) (fun w => opCall rfl Try.func32 rfl rfl (Evs.cons (v := (.pointer (some ⟨g, 0, none⟩))) (hF.ev 1 rfl) (Evs.cons (v := (.slice (some ⟨g24, 0, none⟩) 1 1)) (hF.ev 0 rfl) Evs.nil)) w)) ((Bk.lit1 (C := cBool) true).vu (hH.blk 1 rfl) rfl) rfl (fun _ _ => rfl) (kM [false, false] rfl rfl) (by decide) ?_
      clear hH
      rintro _ E25 w ⟨rfl, hD⟩ hH
      replace hH : HH w0 (bks E) [E25, [bl g24 4 (cBool.enc true)]] w := hH
      refine pxEnd ?_
      refine qxThen ?_
      refine cxSeq ?_
      refine cxReg ?_
      refine pxV (v := (.int .i64 0)) (fun _ _ hF => opAssign rfl rfl) rfl (fun _ _ => rfl) (kM [false] rfl rfl) (by decide) ?_
      refine pxEnd ?_
      refine qxThen ?_
      refine cxRet ?_
      refine qxRet1 0 rfl rfl ?_
      have he : D.sync = (0, D.lasts.2.settle [true]) := by unfold Dk.sync; rw [if_neg (by simp [hg17]), if_pos (by simp [hc23])]
      exact ⟨_, _, rfl, ⟨by rw [he]; rfl, by rw [he]; exact hD⟩, hH.out1 [true, false] rfl⟩

set_option maxHeartbeats 8000000 in
theorem crash_c (g : Nat) (D : Dk) (E : Hl) (hD : DkAt g D E) (keep : List Bool) (A : Option Addr) (c : Nat) (hA : Off A keep.length (bks E)) (hU : D.uns.length ≤ 1000000) : Does Try.prog 20 #[(.pointer (some ⟨g, 0, none⟩)), (.slice A keep.length c)] E (fun w => Vu cBool w A keep.length c keep) (fun v E' => v = .tuple #[] ∧ DkAt g (D.crash keep) E') := by
  refine does_of (fn := Try.f20) Try.func20 rfl Try.ntmps20 (Nat.le_of_ble_eq_true rfl) rfl ?_
  intro w0 hH hR
  have hok := hD.ok
  refine cxSeq ?_
  refine cxSeq ?_
  refine cxReg ?_
  refine pxV (v := (.pointer (some ⟨g, 0, none⟩))) (fun _ _ hF => opMove rfl (hF.ev 0 rfl)) rfl (fun _ _ => rfl) (kA rfl) (by decide) ?_
  refine pxV (v := (.bool false)) (fun _ _ hF => opEqNil (e := 55) rfl (by kernel_rfl) (hF.ev 0 rfl) rfl rfl) rfl (fun _ _ => rfl) (kM [false, true, true] rfl rfl) (by decide) ?_
  refine pxEnd ?_
  refine qxThen ?_
  refine cxF 0 rfl rfl ?_
  refine cxSkip ?_
  refine qxThen ?_
  refine cxSeq ?_
  refine cxReg ?_
  refine pxV (v := (.pointer (some ⟨g, 0, none⟩))) (fun _ _ hF => opMove rfl (hF.ev 1 rfl)) rfl (fun _ _ => rfl) (kM [false, true, true] rfl rfl) (by decide) ?_
  refine pxV (v := (.pointer (some ⟨g, 0, none⟩))) (fun _ _ hF => opMove rfl (hF.ev 1 rfl)) rfl (fun _ _ => rfl) (kA rfl) (by decide) ?_
  refine pxV (v := (.pointer (some ⟨g, 0, none⟩))) (fun _ _ hF => opMove rfl (hF.ev 2 rfl)) rfl (fun _ _ => rfl) (kA rfl) (by decide) ?_
  refine pxV (v := (.pointer (some ⟨g, 0, none⟩))) (fun _ _ hF => opNilCheck rfl (hF.ev 2 rfl)) rfl (fun _ _ => rfl) (kM [true, true, false, true, true] rfl rfl) (by decide) ?_
  refine pxV (v := (.pointer (some ⟨g, 3, none⟩))) (fun _ _ hF => opField (off := 3) rfl (hF.ev 0 rfl) (by kernel_rfl)) rfl (fun _ _ => rfl) (kM [false, true, true, true, true] rfl rfl) (by decide) ?_
  obtain ⟨A1, n2, c3, E4, A5, n6, c7, E8, A9, n10, c11, E12, hE16, hO13, hO14, hO15⟩ := hD.at'
  obtain rfl : n2 = D.now.length := hO13.len
  obtain rfl : n6 = D.syn.length := hO14.len
  obtain rfl : n10 = D.uns.length := hO15.len
  replace hH : HH w0 (bks E) [[bl g 55 #[(.slice A1 D.now.length c3), (.slice A5 D.syn.length c7), (.slice A9 D.uns.length c11), (.bool (D.down)), (.bool (D.fused)), (.int .i64 (D.left))]], E4, E8, E12] w0 := hH.cast (by rw [hE16]; simp)
  refine pxE0 0 hH rfl (fun _ hF => smStore (v := (.bool false)) rfl (hF.ev 0 rfl) rfl (by kernel_rfl) (ltb rfl) rfl rfl) trivial rfl (fun _ _ => rfl) ?_
  clear hH
  rintro _ _ w rfl hH
  replace hH : HH w0 (bks E) [[bl g 55 #[(.slice A1 D.now.length c3), (.slice A5 D.syn.length c7), (.slice A9 D.uns.length c11), (.bool false), (.bool (D.fused)), (.int .i64 (D.left))]], E4, E8, E12] w := hH
  refine pxV (v := (.pointer (some ⟨g, 0, none⟩))) (fun _ _ hF => opNilCheck rfl (hF.ev 2 rfl)) rfl (fun _ _ => rfl) (kM [false, true, false, true, true] rfl rfl) (by decide) ?_
  refine pxV (v := (.pointer (some ⟨g, 4, none⟩))) (fun _ _ hF => opField (off := 4) rfl (hF.ev 0 rfl) (by kernel_rfl)) rfl (fun _ _ => rfl) (kM [false, true, true, true] rfl rfl) (by decide) ?_
  refine pxE0 0 hH rfl (fun _ hF => smStore (v := (.bool false)) rfl (hF.ev 0 rfl) rfl (by kernel_rfl) (ltb rfl) rfl rfl) trivial rfl (fun _ _ => rfl) ?_
  clear hH
  rintro _ _ w rfl hH
  replace hH : HH w0 (bks E) [[bl g 55 #[(.slice A1 D.now.length c3), (.slice A5 D.syn.length c7), (.slice A9 D.uns.length c11), (.bool false), (.bool false), (.int .i64 (D.left))]], E4, E8, E12] w := hH
  refine pxV (v := (.pointer (some ⟨g, 0, none⟩))) (fun _ _ hF => opNilCheck rfl (hF.ev 1 rfl)) rfl (fun _ _ => rfl) (kM [false, false, true, true] rfl rfl) (by decide) ?_
  refine pxV (v := (.pointer (some ⟨g, 5, none⟩))) (fun _ _ hF => opField (off := 5) rfl (hF.ev 0 rfl) (by kernel_rfl)) rfl (fun _ _ => rfl) (kM [false, true, true] rfl rfl) (by decide) ?_
  refine pxE0 0 hH rfl (fun _ hF => smStore (v := (.int .i64 0)) rfl (hF.ev 0 rfl) rfl (by kernel_rfl) (ltb rfl) rfl rfl) trivial rfl (fun _ _ => rfl) ?_
  clear hH
  rintro _ _ w rfl hH
  replace hH : HH w0 (bks E) [[bl g 55 #[(.slice A1 D.now.length c3), (.slice A5 D.syn.length c7), (.slice A9 D.uns.length c11), (.bool false), (.bool false), (.int .i64 0)]], E4, E8, E12] w := hH
  refine pxEnd ?_
  refine qxThen ?_
  refine cxSeq ?_
  refine cxSeq ?_
  refine cxReg ?_
  refine pxV (v := (.slice A keep.length c)) (fun _ _ hF => opMove rfl (hF.ev 2 rfl)) rfl (fun _ _ => rfl) (kM [false, true, true] rfl rfl) (by decide) ?_
  refine pxV (v := (.int .i64 (((keep.length) : Nat) : Int))) (fun _ _ hF => opLen (e := 4) rfl (by kernel_rfl) (hF.ev 0 rfl)) rfl (fun _ _ => rfl) (kM [false, true, true] rfl rfl) (by decide) ?_
  refine pxV (v := (.bool (decide (keep.length = 0)))) (fun _ _ hF => opEqI rfl (hF.ev 0 rfl) rfl (dc (by omega))) rfl (fun _ _ => rfl) (kM [false, true, true] rfl rfl) (by decide) ?_
  refine pxEnd ?_
  refine qxThen ?_
  refine cxP 0 rfl rfl (fun hc17 => ?_) (fun hc17 => ?_)
  · refine cxReg ?_
    refine pxM hH (fun _ hF => smLit1 (e := 4) (sz := 1) (z := (.bool false)) (by_ := 1) (cs := cBool.enc false) rfl (by kernel_rfl) (by kernel_rfl) rfl (cBool.len false) (ltb rfl) (leb rfl) rfl) trivial rfl (fun _ _ => rfl) (kM [false, true, false] rfl rfl) (by decide) ?_
    clear hH
    rintro _ _ w ⟨g18, rfl, rfl⟩ hH
    replace hH : HH w0 (bks E) [[bl g 55 #[(.slice A1 D.now.length c3), (.slice A5 D.syn.length c7), (.slice A9 D.uns.length c11), (.bool false), (.bool false), (.int .i64 0)]], E4, E8, E12, [bl g18 4 (cBool.enc false)]] w := hH
    refine pxV (v := (.slice (some ⟨g18, 0, none⟩) 1 1)) (fun _ _ hF => opAssign rfl (hF.ev 0 rfl)) rfl (fun _ _ => rfl) (kM [false, true] rfl rfl) (by decide) ?_
    refine pxEnd ?_
    refine qxThen ?_
    refine cxReg ?_
    refine pxV (v := (.pointer (some ⟨g, 0, none⟩))) (fun _ _ hF => opMove rfl (hF.ev 1 rfl)) rfl (fun _ _ => rfl) (kM [true, false] rfl rfl) (by decide) ?_
    refine pxV (v := (.slice (some ⟨g18, 0, none⟩) 1 1)) (fun _ _ hF => opMove rfl (hF.ev 1 rfl)) rfl (fun _ _ => rfl) (kM [true, false] rfl rfl) (by decide) ?_
    obtain ⟨E19, hE20, hD⟩ : ∃ E, E = ([[bl g 55 #[(.slice A1 D.now.length c3), (.slice A5 D.syn.length c7), (.slice A9 D.uns.length c11), (.bool false), (.bool false), (.int .i64 0)]], E4, E8, E12] : List Hl).flatten ∧ DkAt g ({ D with down := false, fused := false, left := 0 } : Dk) E := ⟨_, rfl, ⟨hok.nn, hok.sz, hok.uns, (fun h => by cases h), le0⟩, _, _, _, _, _, _, _, _, _, _, _, _, rfl, hO13, hO14, hO15⟩
    replace hH : HH w0 (bks E) [E19, [bl g18 4 (cBool.enc false)]] w := hH.cast (by rw [hE20]; simp)
    refine pxE 0 hH rfl (fun _ hF => Does.small (settle_c g ({ D with down := false, fused := false, left := 0 } : Dk) E19 hD ([false]) (by first | exact Nat.zero_lt_one | omega) (some ⟨g18, 0, none⟩) 1 (hH.off2 0 1 rfl rfl rfl) hU) (fun w => opCall rfl Try.func32 rfl rfl (Evs.cons (v := (.pointer (some ⟨g, 0, none⟩))) (hF.ev 1 rfl) (Evs.cons (v := (.slice (some ⟨g18, 0, none⟩) 1 1)) (hF.ev 0 rfl) Evs.nil)) w)) ((Bk.lit1 (C := cBool) false).vu (hH.blk 1 rfl) rfl) rfl (fun _ _ => rfl) (kM [false, false] rfl rfl) (by decide) ?_
    clear hH
    rintro _ E21 w ⟨rfl, hD⟩ hH
    replace hH : HH w0 (bks E) [E21, [bl g18 4 (cBool.enc false)]] w := hH
    refine pxEnd ?_
    refine qxEnd0 rfl ?_
    exact ⟨_, _, rfl, ⟨rfl, by unfold Dk.crash keepOf; rw [if_pos hc17]; exact hD⟩, hH.out1 [true, false] rfl⟩
  · refine cxSkip ?_
    refine qxThen ?_
    refine cxReg ?_
    refine pxV (v := (.pointer (some ⟨g, 0, none⟩))) (fun _ _ hF => opMove rfl (hF.ev 1 rfl)) rfl (fun _ _ => rfl) (kM [false, false, true] rfl rfl) (by decide) ?_
    refine pxV (v := (.slice A keep.length c)) (fun _ _ hF => opMove rfl (hF.ev 1 rfl)) rfl (fun _ _ => rfl) (kM [true, false] rfl rfl) (by decide) ?_
    obtain ⟨E22, hE23, hD⟩ : ∃ E, E = ([[bl g 55 #[(.slice A1 D.now.length c3), (.slice A5 D.syn.length c7), (.slice A9 D.uns.length c11), (.bool false), (.bool false), (.int .i64 0)]], E4, E8, E12] : List Hl).flatten ∧ DkAt g ({ D with down := false, fused := false, left := 0 } : Dk) E := ⟨_, rfl, ⟨hok.nn, hok.sz, hok.uns, (fun h => by cases h), le0⟩, _, _, _, _, _, _, _, _, _, _, _, _, rfl, hO13, hO14, hO15⟩
    replace hH : HH w0 (bks E) [E22] w := hH.cast (by rw [hE23]; simp)
    refine pxE 0 hH rfl (fun _ hF => Does.small (settle_c g ({ D with down := false, fused := false, left := 0 } : Dk) E22 hD keep (by first | exact Nat.zero_lt_one | omega) A c (hH.off 0 rfl hR (by decide) hA) hU) (fun w => opCall rfl Try.func32 rfl rfl (Evs.cons (v := (.pointer (some ⟨g, 0, none⟩))) (hF.ev 1 rfl) (Evs.cons (v := (.slice A keep.length c)) (hF.ev 0 rfl) Evs.nil)) w)) (hH.vu hR (by decide) hA) rfl (fun _ _ => rfl) (kM [false, false] rfl rfl) (by decide) ?_
    clear hH
    rintro _ E24 w ⟨rfl, hD⟩ hH
    replace hH : HH w0 (bks E) [E24] w := hH
    refine pxEnd ?_
    refine qxEnd0 rfl ?_
    exact ⟨_, _, rfl, ⟨rfl, by unfold Dk.crash keepOf; rw [if_neg hc17]; exact hD⟩, hH.out1 [true] rfl⟩

def Dk.new (m : Nat) : Dk := ⟨List.replicate m fun _ => 0, List.replicate m fun _ => 0, [], false, false, 0⟩
theorem new_ok {m : Nat} (h : m ≤ 4000) : (Dk.new m).Ok := ⟨rfl, by show (List.replicate m _).length ≤ _; rw [List.length_replicate]; exact h, (fun c hc => by cases hc), (fun h => by cases h), le0⟩

set_option maxHeartbeats 8000000 in
theorem new_c (n : Int) (m : Nat) (hm : max 0 (min n 4000) = (m : Int)) (hm2 : m ≤ 4000) : Does Try.prog 9 #[(.int .i64 (n))] [] (fun _ => True) (fun v E' => ∃ g, v = ptrV g ∧ DkAt g (Dk.new m) E') := by
  refine does_of (fn := Try.f9) Try.func9 rfl Try.ntmps9 (Nat.le_of_ble_eq_true rfl) rfl ?_
  intro w0 hH hR
  replace hH : HH w0 [] [] w0 := hH.only [false]
  refine cxSeq ?_
  refine cxReg ?_
  refine pxV (v := (.pointer none)) (fun _ _ hF => opAssign rfl rfl) rfl (fun _ _ => rfl) (kA rfl) (by decide) ?_
  refine pxEnd ?_
  refine qxThen ?_
  refine cxSeq ?_
  refine cxReg ?_
  refine pxV (v := (.int .i64 (n))) (fun _ _ hF => opMove rfl (hF.ev 1 rfl)) rfl (fun _ _ => rfl) (kM [false, false] rfl rfl) (by decide) ?_
  refine pxV (v := (.int .i64 (min (n) 4000))) (fun _ _ hF => opMin rfl (hF.ev 0 rfl) rfl rfl) rfl (fun _ _ => rfl) (kM [false] rfl rfl) (by decide) ?_
  refine pxV (v := (.int .i64 (((m) : Nat) : Int))) (fun _ _ hF => opMax rfl rfl (hF.ev 0 rfl) (hm)) rfl (fun _ _ => rfl) (kM [false] rfl rfl) (by decide) ?_
  refine pxV (v := (.int .i64 (((m) : Nat) : Int))) (fun _ _ hF => opAssign rfl (hF.ev 0 rfl)) rfl (fun _ _ => rfl) (kM [false] rfl rfl) (by decide) ?_
  refine pxEnd ?_
  refine qxThen ?_
  refine cxSeq ?_
  refine cxRegX mixedOrders (by kernel_rfl) ?_
  replace hH := hH.drew
  refine rxV 0 rfl (by kernel_rfl) rfl (fun _ _ => rfl) (fun _ _ hF => opMove rfl (hF.ev 0 rfl)) (kA rfl) (by decide) (v := (.int .i64 (((m) : Nat) : Int))) ?_
  refine rxV 2 rfl (by kernel_rfl) rfl (fun _ _ => rfl) (fun _ _ hF => opMove rfl (hF.ev 1 rfl)) (kM [true, false] rfl rfl) (by decide) (v := (.int .i64 (((m) : Nat) : Int))) ?_
  refine rx2 1 3 (by kernel_rfl) ?_ ?_
  · refine moM rfl hH (fun _ hF => smMake (e := 71) (n := m) (sz := 64) (by_ := 64) (z := (cSec.val (fun _ => 0))) (cs := madeCells (cSec.enc (fun _ => 0)) (m * 64)) rfl (by kernel_rfl) (by kernel_rfl) (hF.ev 1 rfl) (hF.ev 1 rfl) rfl rfl (by omega) (by omega) rfl) trivial rfl (fun _ _ => rfl) (kM [true, false] rfl rfl) (by decide) (PendOk.nil _ []) ?_
    clear hH
    rintro _ _ w ⟨g1, rfl, rfl⟩ hH
    replace hH : HH w0 [] [[bl g1 71 (madeCells (cSec.enc (fun _ => 0)) (m * 64))]] w := hH
    refine ⟨(fun _ hs => by cases hs), ?_⟩
    refine rx1 3 (by kernel_rfl) ?_
    refine moM rfl hH (fun _ hF => smMake (e := 71) (n := m) (sz := 64) (by_ := 64) (z := (cSec.val (fun _ => 0))) (cs := madeCells (cSec.enc (fun _ => 0)) (m * 64)) rfl (by kernel_rfl) (by kernel_rfl) (hF.ev 1 rfl) (hF.ev 1 rfl) rfl rfl (by omega) (by omega) rfl) trivial rfl (fun _ _ => rfl) (kM [true, false] rfl rfl) (by decide) (PendOk.nil _ []) ?_
    clear hH
    rintro _ _ w ⟨g2, rfl, rfl⟩ hH
    replace hH : HH w0 [] [[bl g1 71 (madeCells (cSec.enc (fun _ => 0)) (m * 64))], [bl g2 71 (madeCells (cSec.enc (fun _ => 0)) (m * 64))]] w := hH
    refine ⟨(fun _ hs => by cases hs), ?_⟩
    refine rxV 4 rfl (by kernel_rfl) rfl (fun _ _ => rfl) (fun _ _ hF => opBuildP (cells := #[(.slice (some ⟨g1, 0, none⟩) m m), (.slice (some ⟨g2, 0, none⟩) m m), (.slice none 0 0), (.bool false), (.bool false), (.int .i64 0)]) rfl (EvP.cons (v := (.slice (some ⟨g1, 0, none⟩) m m)) (hF.ev 1 rfl) (EvP.cons (v := (.slice (some ⟨g2, 0, none⟩) m m)) (hF.ev 0 rfl) EvP.nil)) rfl _) (kM [false, false] rfl rfl) (by decide) (v := (.agg #[(.slice (some ⟨g1, 0, none⟩) m m), (.slice (some ⟨g2, 0, none⟩) m m), (.slice none 0 0), (.bool false), (.bool false), (.int .i64 0)])) ?_
    refine rx1 5 (by kernel_rfl) ?_
    refine moM rfl hH (fun _ hF => smBox rfl (hF.ev 0 rfl) rfl) trivial rfl (fun _ _ => rfl) (kM [false] rfl rfl) (by decide) (PendOk.nil _ []) ?_
    clear hH
    rintro _ _ w ⟨g3, rfl, rfl⟩ hH
    replace hH : HH w0 [] [[bl g1 71 (madeCells (cSec.enc (fun _ => 0)) (m * 64))], [bl g2 71 (madeCells (cSec.enc (fun _ => 0)) (m * 64))], [bl g3 55 #[(.slice (some ⟨g1, 0, none⟩) m m), (.slice (some ⟨g2, 0, none⟩) m m), (.slice none 0 0), (.bool false), (.bool false), (.int .i64 0)]]] w := hH
    refine ⟨(fun _ hs => by cases hs), ?_⟩
    refine rxV 6 rfl (by kernel_rfl) rfl (fun _ _ => rfl) (fun _ _ hF => opAssign rfl (hF.ev 0 rfl)) (kM [false] rfl rfl) (by decide) (v := (.pointer (some ⟨g3, 0, none⟩))) ?_
    refine rxEnd (by kernel_rfl) ?_
    refine qxThen ?_
    refine cxRet ?_
    refine qxRet1 0 rfl rfl ?_
    exact ⟨_, _, rfl, ⟨_, rfl, new_ok hm2, _, _, _, _, _, _, _, _, _, _, _, [], rfl, ((Bk.make (C := cSec) (fun _ => 0) m (ltb rfl) (by unfold maxLen; omega)).own 71 g1 (by rw [List.length_replicate])), ((Bk.make (C := cSec) (fun _ => 0) m (ltb rfl) (by unfold maxLen; omega)).own 71 g2 (by rw [List.length_replicate])), OwnT.nil _ _⟩, (HH.pick (HH.pad hH 1) [2, 0, 1, 3] rfl (by decide))⟩
  · refine moM rfl hH (fun _ hF => smMake (e := 71) (n := m) (sz := 64) (by_ := 64) (z := (cSec.val (fun _ => 0))) (cs := madeCells (cSec.enc (fun _ => 0)) (m * 64)) rfl (by kernel_rfl) (by kernel_rfl) (hF.ev 0 rfl) (hF.ev 0 rfl) rfl rfl (by omega) (by omega) rfl) trivial rfl (fun _ _ => rfl) (kM [false, true] rfl rfl) (by decide) (PendOk.nil _ []) ?_
    clear hH
    rintro _ _ w ⟨g4, rfl, rfl⟩ hH
    replace hH : HH w0 [] [[bl g4 71 (madeCells (cSec.enc (fun _ => 0)) (m * 64))]] w := hH
    refine ⟨(fun _ hs => by cases hs), ?_⟩
    refine rx1 1 (by kernel_rfl) ?_
    refine moM rfl hH (fun _ hF => smMake (e := 71) (n := m) (sz := 64) (by_ := 64) (z := (cSec.val (fun _ => 0))) (cs := madeCells (cSec.enc (fun _ => 0)) (m * 64)) rfl (by kernel_rfl) (by kernel_rfl) (hF.ev 1 rfl) (hF.ev 1 rfl) rfl rfl (by omega) (by omega) rfl) trivial rfl (fun _ _ => rfl) (kM [true, false] rfl rfl) (by decide) (PendOk.nil _ []) ?_
    clear hH
    rintro _ _ w ⟨g5, rfl, rfl⟩ hH
    replace hH : HH w0 [] [[bl g4 71 (madeCells (cSec.enc (fun _ => 0)) (m * 64))], [bl g5 71 (madeCells (cSec.enc (fun _ => 0)) (m * 64))]] w := hH
    refine ⟨(fun _ hs => by cases hs), ?_⟩
    refine rxV 4 rfl (by kernel_rfl) rfl (fun _ _ => rfl) (fun _ _ hF => opBuildP (cells := #[(.slice (some ⟨g5, 0, none⟩) m m), (.slice (some ⟨g4, 0, none⟩) m m), (.slice none 0 0), (.bool false), (.bool false), (.int .i64 0)]) rfl (EvP.cons (v := (.slice (some ⟨g5, 0, none⟩) m m)) (hF.ev 0 rfl) (EvP.cons (v := (.slice (some ⟨g4, 0, none⟩) m m)) (hF.ev 1 rfl) EvP.nil)) rfl _) (kM [false, false] rfl rfl) (by decide) (v := (.agg #[(.slice (some ⟨g5, 0, none⟩) m m), (.slice (some ⟨g4, 0, none⟩) m m), (.slice none 0 0), (.bool false), (.bool false), (.int .i64 0)])) ?_
    refine rx1 5 (by kernel_rfl) ?_
    refine moM rfl hH (fun _ hF => smBox rfl (hF.ev 0 rfl) rfl) trivial rfl (fun _ _ => rfl) (kM [false] rfl rfl) (by decide) (PendOk.nil _ []) ?_
    clear hH
    rintro _ _ w ⟨g6, rfl, rfl⟩ hH
    replace hH : HH w0 [] [[bl g4 71 (madeCells (cSec.enc (fun _ => 0)) (m * 64))], [bl g5 71 (madeCells (cSec.enc (fun _ => 0)) (m * 64))], [bl g6 55 #[(.slice (some ⟨g5, 0, none⟩) m m), (.slice (some ⟨g4, 0, none⟩) m m), (.slice none 0 0), (.bool false), (.bool false), (.int .i64 0)]]] w := hH
    refine ⟨(fun _ hs => by cases hs), ?_⟩
    refine rxV 6 rfl (by kernel_rfl) rfl (fun _ _ => rfl) (fun _ _ hF => opAssign rfl (hF.ev 0 rfl)) (kM [false] rfl rfl) (by decide) (v := (.pointer (some ⟨g6, 0, none⟩))) ?_
    refine rxEnd (by kernel_rfl) ?_
    refine qxThen ?_
    refine cxRet ?_
    refine qxRet1 0 rfl rfl ?_
    exact ⟨_, _, rfl, ⟨_, rfl, new_ok hm2, _, _, _, _, _, _, _, _, _, _, _, [], rfl, ((Bk.make (C := cSec) (fun _ => 0) m (ltb rfl) (by unfold maxLen; omega)).own 71 g5 (by rw [List.length_replicate])), ((Bk.make (C := cSec) (fun _ => 0) m (ltb rfl) (by unfold maxLen; omega)).own 71 g4 (by rw [List.length_replicate])), OwnT.nil _ _⟩, (HH.pick (HH.pad hH 1) [2, 1, 0, 3] rfl (by decide))⟩
end Go.Proofs.Ytglplhbhpaegeaa
