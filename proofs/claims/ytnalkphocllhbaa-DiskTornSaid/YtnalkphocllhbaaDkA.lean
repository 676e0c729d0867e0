/- What the laws of layer 9 lean on: same, do, few, awake (mkdl.py writes this text). -/
import Derived.Test.YtnalkphocllhbaaDkL
namespace Go.Proofs.Ytnalkphocllhbaa
open Go Go.RowKit
set_option maxRecDepth 100000

set_option maxHeartbeats 8000000 in
theorem same_c (g gw : Nat) (D : Dk) (W : Dr) (Ed Ew : Hl) (hD : DkAt g D Ed) (hW : DrAt gw W Ew) (hl : Like D W) : Does Try.prog 12 #[(.pointer (some ⟨g, 0, none⟩)), (.pointer (some ⟨gw, 0, none⟩))] ([Ed, Ew] : List Hl).flatten (fun _ => True) (fun v E' => v = .bool true ∧ ∃ E1 E2, E' = ([E1, E2] : List Hl).flatten ∧ DkAt g D E1 ∧ DrAt gw W E2) := by
  refine does_of (fn := Try.f12) Try.func12 rfl Try.ntmps12 (Nat.le_of_ble_eq_true rfl) rfl ?_
  intro w0 hH hR
  replace hH : HH w0 (bks ([Ed, Ew] : List Hl).flatten) [Ed, Ew] w0 := hH.cast (by simp)
  have hs1 := hD.ok.sz
  have hs2 := hW.ok.sz
  have hrr : D.reads 0 ((D.now.length : Nat) : Int) = W.reads 0 ((W.is.length : Nat) : Int) := by rw [like_reads hl, hl.now]
  refine cxSeq ?_
  refine cxReg ?_
  refine pxV (v := (.bool false)) (fun _ _ hF => opAssign rfl rfl) rfl (fun _ _ => rfl) (kA rfl) (by decide) ?_
  refine pxEnd ?_
  refine qxThen ?_
  refine cxSeq ?_
  refine cxReg ?_
  refine pxV (v := (.pointer (some ⟨g, 0, none⟩))) (fun _ _ hF => opMove rfl (hF.ev 1 rfl)) rfl (fun _ _ => rfl) (kM [false, true, true] rfl rfl) (by decide) ?_
  refine pxV (v := (.pointer (some ⟨g, 0, none⟩))) (fun _ _ hF => opMove rfl (hF.ev 1 rfl)) rfl (fun _ _ => rfl) (kA rfl) (by decide) ?_
  refine pxE 0 hH rfl (fun _ hF => Does.small (sectors_c g D Ed hD ) (fun w => opCall rfl Try.func19 rfl rfl (Evs.cons (v := (.pointer (some ⟨g, 0, none⟩))) (hF.ev 0 rfl) Evs.nil) w)) trivial rfl (fun _ _ => rfl) (kM [false, true, true, true] rfl rfl) (by decide) ?_
  clear hH
  rintro _ E1 w ⟨rfl, hD2⟩ hH
  replace hH : HH w0 (bks (([Ed, Ew] : List Hl).flatten)) [E1, Ew] w := hH
  refine pxE 0 hH rfl (fun _ hF => Does.small (read_c g D E1 hD2 0 (((D.now.length) : Nat) : Int) (by omega) (by omega) hD2.ok.sz) (fun w => opCall rfl Try.func17 rfl rfl (Evs.cons (v := (.pointer (some ⟨g, 0, none⟩))) (hF.ev 1 rfl) (Evs.cons (v := (.int .i64 0)) rfl (Evs.cons (v := (.int .i64 (((D.now.length) : Nat) : Int))) (hF.ev 0 rfl) Evs.nil))) w)) trivial rfl (fun _ _ => rfl) (kM [false, false, true, true] rfl rfl) (by decide) ?_
  clear hH
  rintro _ _ w ⟨s3, E4, E5, rfl, rfl, hD6, hO7⟩ hH
  replace hH : HH w0 (bks (([Ed, Ew] : List Hl).flatten)) [([E5, E4] : List Hl).flatten, Ew] w := hH
  obtain ⟨A8, c9, rfl⟩ := hO7.slice
  replace hH : HH w0 (bks (([Ed, Ew] : List Hl).flatten)) [E5, E4, Ew] w := hH.cast (by simp)
  refine pxV (v := (.tuple #[(.slice A8 ((D.reads 0 (((D.now.length) : Nat) : Int)).2.length) c9), (.int .i64 ((((D.reads 0 (((D.now.length) : Nat) : Int)).1) : Nat) : Int))])) (fun _ _ hF => opMove rfl (hF.ev 0 rfl)) rfl (fun _ _ => rfl) (kM [false, true, true] rfl rfl) (by decide) ?_
  refine pxV (v := (.slice A8 ((D.reads 0 (((D.now.length) : Nat) : Int)).2.length) c9)) (fun _ _ hF => opExtract rfl (hF.ev 0 rfl) rfl) rfl (fun _ _ => rfl) (kA rfl) (by decide) ?_
  refine pxV (v := (.int .i64 ((((D.reads 0 (((D.now.length) : Nat) : Int)).1) : Nat) : Int))) (fun _ _ hF => opExtract rfl (hF.ev 1 rfl) rfl) rfl (fun _ _ => rfl) (kM [true, false, true, true] rfl rfl) (by decide) ?_
  refine pxV (v := (.slice A8 ((D.reads 0 (((D.now.length) : Nat) : Int)).2.length) c9)) (fun _ _ hF => opAssign rfl (hF.ev 1 rfl)) rfl (fun _ _ => rfl) (kM [true, false, true, true] rfl rfl) (by decide) ?_
  refine pxV (v := (.int .i64 ((((D.reads 0 (((D.now.length) : Nat) : Int)).1) : Nat) : Int))) (fun _ _ hF => opAssign rfl (hF.ev 1 rfl)) rfl (fun _ _ => rfl) (kM [true, false, true, true] rfl rfl) (by decide) ?_
  refine pxEnd ?_
  refine qxThen ?_
  refine cxSeq ?_
  refine cxReg ?_
  refine pxV (v := (.pointer (some ⟨gw, 0, none⟩))) (fun _ _ hF => opMove rfl (hF.ev 3 rfl)) rfl (fun _ _ => rfl) (kA rfl) (by decide) ?_
  refine pxV (v := (.pointer (some ⟨gw, 0, none⟩))) (fun _ _ hF => opMove rfl (hF.ev 4 rfl)) rfl (fun _ _ => rfl) (kA rfl) (by decide) ?_
  refine pxV (v := (.pointer (some ⟨gw, 0, none⟩))) (fun _ _ hF => opNilCheck rfl (hF.ev 0 rfl)) rfl (fun _ _ => rfl) (kM [false, true, true, true, true, true] rfl rfl) (by decide) ?_
  refine pxV (v := (.pointer (some ⟨gw, 0, none⟩))) (fun _ _ hF => opField (off := 0) rfl (hF.ev 0 rfl) (by kernel_rfl)) rfl (fun _ _ => rfl) (kM [false, true, true, true, true, true] rfl rfl) (by decide) ?_
  obtain ⟨A10, n11, c12, E13, A14, n15, c16, E17, A18, n19, c20, E21, hE25, hO22, hO23, hO24⟩ := hW.at'
  obtain rfl : n11 = W.is.length := hO22.len
  obtain rfl : n15 = W.kept.length := hO23.len
  obtain rfl : n19 = W.l.length := hO24.len
  replace hH : HH w0 (bks (([Ed, Ew] : List Hl).flatten)) [E5, E4, [bl gw 55 #[(.slice A10 W.is.length c12), (.slice A14 W.kept.length c16), (.slice A18 W.l.length c20), (.int .i64 (W.fuse)), (.bool (W.gone))]], E13, E17, E21] w := hH.cast (by rw [hE25]; simp)
  refine pxS (v := (.slice A10 W.is.length c12)) (fun w => w.heap[gw]? = some (.cells #[(.slice A10 W.is.length c12), (.slice A14 W.kept.length c16), (.slice A18 W.l.length c20), (.int .i64 (W.fuse)), (.bool (W.gone))] 55 (0, 0))) (hH.blk 2 rfl) (fun _ _ hF hS => opLoadK hS rfl (hF.ev 0 rfl) (by kernel_rfl) rfl) rfl (fun _ _ => rfl) (kM [false, true, true, true, true, true] rfl rfl) (by decide) ?_
  refine pxV (v := (.int .i64 (((W.is.length) : Nat) : Int))) (fun _ _ hF => opLen (e := 58) rfl (by kernel_rfl) (hF.ev 0 rfl)) rfl (fun _ _ => rfl) (kM [false, true, true, true, true, true] rfl rfl) (by decide) ?_
  obtain ⟨E26, hE27, hD28⟩ : ∃ E, E = ([[bl gw 55 #[(.slice A10 W.is.length c12), (.slice A14 W.kept.length c16), (.slice A18 W.l.length c20), (.int .i64 (W.fuse)), (.bool (W.gone))]], E13, E17, E21] : List Hl).flatten ∧ DrAt gw W E := ⟨_, rfl, hW.ok, _, _, _, _, _, _, _, _, _, _, _, _, rfl, hO22, hO23, hO24⟩
  replace hH : HH w0 (bks (([Ed, Ew] : List Hl).flatten)) [E5, E4, E26] w := hH.cast (by rw [hE27]; simp)
  refine pxE 2 hH rfl (fun _ hF => Does.small (readR_c gw W E26 hD28 0 (((W.is.length) : Nat) : Int) (by omega) (by omega)) (fun w => opCall rfl Try.func25 rfl rfl (Evs.cons (v := (.pointer (some ⟨gw, 0, none⟩))) (hF.ev 1 rfl) (Evs.cons (v := (.int .i64 0)) rfl (Evs.cons (v := (.int .i64 (((W.is.length) : Nat) : Int))) (hF.ev 0 rfl) Evs.nil))) w)) trivial rfl (fun _ _ => rfl) (kM [false, false, true, true, true, true] rfl rfl) (by decide) ?_
  clear hH
  rintro _ _ w ⟨s29, E30, E31, rfl, rfl, hD32, hO33⟩ hH
  replace hH : HH w0 (bks (([Ed, Ew] : List Hl).flatten)) [E5, E4, ([E31, E30] : List Hl).flatten] w := hH
  obtain ⟨A34, c35, rfl⟩ := hO33.slice
  replace hH : HH w0 (bks (([Ed, Ew] : List Hl).flatten)) [E5, E4, E31, E30] w := hH.cast (by simp)
  refine pxV (v := (.tuple #[(.slice A34 ((W.reads 0 (((W.is.length) : Nat) : Int)).2.length) c35), (.int .i64 ((((W.reads 0 (((W.is.length) : Nat) : Int)).1) : Nat) : Int))])) (fun _ _ hF => opMove rfl (hF.ev 0 rfl)) rfl (fun _ _ => rfl) (kM [false, true, true, true, true] rfl rfl) (by decide) ?_
  refine pxV (v := (.slice A34 ((W.reads 0 (((W.is.length) : Nat) : Int)).2.length) c35)) (fun _ _ hF => opExtract rfl (hF.ev 0 rfl) rfl) rfl (fun _ _ => rfl) (kA rfl) (by decide) ?_
  refine pxV (v := (.int .i64 ((((W.reads 0 (((W.is.length) : Nat) : Int)).1) : Nat) : Int))) (fun _ _ hF => opExtract rfl (hF.ev 1 rfl) rfl) rfl (fun _ _ => rfl) (kM [true, false, true, true, true, true] rfl rfl) (by decide) ?_
  refine pxV (v := (.slice A34 ((W.reads 0 (((W.is.length) : Nat) : Int)).2.length) c35)) (fun _ _ hF => opAssign rfl (hF.ev 1 rfl)) rfl (fun _ _ => rfl) (kM [true, false, true, true, true, true] rfl rfl) (by decide) ?_
  refine pxV (v := (.int .i64 ((((W.reads 0 (((W.is.length) : Nat) : Int)).1) : Nat) : Int))) (fun _ _ hF => opAssign rfl (hF.ev 1 rfl)) rfl (fun _ _ => rfl) (kM [true, false, true, true, true, true] rfl rfl) (by decide) ?_
  refine pxEnd ?_
  refine qxThen ?_
  refine cxSeq ?_
  refine cxRegX mixedOrders (by kernel_rfl) ?_
  replace hH := hH.drew
  refine rxV 0 rfl (by kernel_rfl) rfl (fun _ _ => rfl) (fun _ _ hF => opMove rfl (hF.ev 3 rfl)) (kM [true, true, true, false, true, true] rfl rfl) (by decide) (v := (.slice A8 ((D.reads 0 (((D.now.length) : Nat) : Int)).2.length) c9)) ?_
  refine rxS (fun w => Vu cByte w A8 ((D.reads 0 (((D.now.length) : Nat) : Int)).2.length) c9 ((D.reads 0 (((D.now.length) : Nat) : Int)).2)) 1 rfl (by kernel_rfl) rfl (fun _ _ => rfl) (hO7.vuAt (hH.has 1 rfl)) (fun _ _ hF hS => opStr (e := 5) rfl (by kernel_rfl) (by kernel_rfl) (by kernel_rfl) (hF.ev 0 rfl) hS) (kM [false, true, true, true, true, true] rfl rfl) (by decide) (v := (.string (strL ((D.reads 0 (((D.now.length) : Nat) : Int)).2)))) ?_
  refine rxV 2 rfl (by kernel_rfl) rfl (fun _ _ => rfl) (fun _ _ hF => opMove rfl (hF.ev 2 rfl)) (kM [true, true, false, true, true, true] rfl rfl) (by decide) (v := (.slice A34 ((W.reads 0 (((W.is.length) : Nat) : Int)).2.length) c35)) ?_
  refine rxS (fun w => Vu cByte w A34 ((W.reads 0 (((W.is.length) : Nat) : Int)).2.length) c35 ((W.reads 0 (((W.is.length) : Nat) : Int)).2)) 3 rfl (by kernel_rfl) rfl (fun _ _ => rfl) (hO33.vuAt (hH.has 3 rfl)) (fun _ _ hF hS => opStr (e := 5) rfl (by kernel_rfl) (by kernel_rfl) (by kernel_rfl) (hF.ev 0 rfl) hS) (kM [false, true, true, true, true, true] rfl rfl) (by decide) (v := (.string (strL ((W.reads 0 (((W.is.length) : Nat) : Int)).2)))) ?_
  refine rxV 4 rfl (by kernel_rfl) rfl (fun _ _ => rfl) (fun _ _ hF => opEqS rfl (hF.ev 1 rfl) (hF.ev 0 rfl) (decide_eq_true (by rw [hrr]))) (kM [false, false, true, true, true, true] rfl rfl) (by decide) (v := (.bool true)) ?_
  refine rxV 5 rfl (by kernel_rfl) rfl (fun _ _ => rfl) (fun _ _ hF => opMove rfl (hF.ev 0 rfl)) (kM [false, true, true, true, true] rfl rfl) (by decide) (v := (.bool true)) ?_
  refine rxV 6 rfl (by kernel_rfl) rfl (gOn 0 rfl rfl rfl (by decide)) (fun _ _ hF => opMove rfl (hF.ev 2 rfl)) (kM [true, true, false, true, true] rfl rfl) (by decide) (v := (.int .i64 ((((D.reads 0 (((D.now.length) : Nat) : Int)).1) : Nat) : Int))) ?_
  refine rxV 7 rfl (by kernel_rfl) rfl (gOn 1 rfl rfl rfl (by decide)) (fun _ _ hF => opMove rfl (hF.ev 2 rfl)) (kM [true, true, false, true, true] rfl rfl) (by decide) (v := (.int .i64 ((((W.reads 0 (((W.is.length) : Nat) : Int)).1) : Nat) : Int))) ?_
  refine rxV 8 rfl (by kernel_rfl) rfl (gOn 2 rfl rfl rfl (by decide)) (fun _ _ hF => opEqI rfl (hF.ev 1 rfl) (hF.ev 0 rfl) (decide_eq_true (by rw [hrr]))) (kM [false, false, true, true, true] rfl rfl) (by decide) (v := (.bool true)) ?_
  refine rxV 9 rfl (by kernel_rfl) rfl (fun _ _ => rfl) (fun _ _ hF => opPickT rfl (hF.ev 1 rfl) (hF.ev 0 rfl)) (kM [false, false, true, true] rfl rfl) (by decide) (v := (.bool true)) ?_
  refine rxV 10 rfl (by kernel_rfl) rfl (fun _ _ => rfl) (fun _ _ hF => opMove rfl (hF.ev 0 rfl)) (kM [false, true, true] rfl rfl) (by decide) (v := (.bool true)) ?_
  refine rxV 11 rfl (by kernel_rfl) rfl (gOn 0 rfl rfl rfl (by decide)) (fun _ _ hF => opMove rfl (hF.ev 1 rfl)) (kA rfl) (by decide) (v := (.pointer (some ⟨g, 0, none⟩))) ?_
  refine rxV 13 rfl (by kernel_rfl) rfl (gOn 1 rfl rfl rfl (by decide)) (fun _ _ hF => opMove rfl (hF.ev 3 rfl)) (kA rfl) (by decide) (v := (.pointer (some ⟨gw, 0, none⟩))) ?_
  refine rxV 14 rfl (by kernel_rfl) rfl (gOn 2 rfl rfl rfl (by decide)) (fun _ _ hF => opNilCheck rfl (hF.ev 0 rfl)) (kM [false, true, true, true, true] rfl rfl) (by decide) (v := (.pointer (some ⟨gw, 0, none⟩))) ?_
  refine rxV 15 rfl (by kernel_rfl) rfl (gOn 2 rfl rfl rfl (by decide)) (fun _ _ hF => opField (off := 0) rfl (hF.ev 0 rfl) (by kernel_rfl)) (kM [false, true, true, true, true] rfl rfl) (by decide) (v := (.pointer (some ⟨gw, 0, none⟩))) ?_
  obtain ⟨A36, n37, c38, E39, A40, n41, c42, E43, A44, n45, c46, E47, hE51, hO48, hO49, hO50⟩ := hD32.at'
  obtain rfl : n37 = W.is.length := hO48.len
  obtain rfl : n41 = W.kept.length := hO49.len
  obtain rfl : n45 = W.l.length := hO50.len
  replace hH : HH w0 (bks (([Ed, Ew] : List Hl).flatten)) [E5, E4, [bl gw 55 #[(.slice A36 W.is.length c38), (.slice A40 W.kept.length c42), (.slice A44 W.l.length c46), (.int .i64 (W.fuse)), (.bool (W.gone))]], E39, E43, E47, E30] w.drew := hH.cast (by rw [hE51]; simp)
  refine rxS (fun w => w.heap[gw]? = some (.cells #[(.slice A36 W.is.length c38), (.slice A40 W.kept.length c42), (.slice A44 W.l.length c46), (.int .i64 (W.fuse)), (.bool (W.gone))] 55 (0, 0))) 16 rfl (by kernel_rfl) rfl (gOn 2 rfl rfl rfl (by decide)) (hH.blk 2 rfl) (fun _ _ hF hS => opLoadK hS rfl (hF.ev 0 rfl) (by kernel_rfl) rfl) (kM [false, true, true, true, true] rfl rfl) (by decide) (v := (.slice A36 W.is.length c38)) ?_
  refine rxV 17 rfl (by kernel_rfl) rfl (gOn 2 rfl rfl rfl (by decide)) (fun _ _ hF => opLen (e := 58) rfl (by kernel_rfl) (hF.ev 0 rfl)) (kM [false, true, true, true, true] rfl rfl) (by decide) (v := (.int .i64 (((W.is.length) : Nat) : Int))) ?_
  refine rx1 12 (by kernel_rfl) ?_
  refine moE 0 rfl hH rfl (fun _ hF => Does.small (sectors_c g D E5 hD6 ) (fun w => opCall rfl Try.func19 rfl rfl (Evs.cons (v := (.pointer (some ⟨g, 0, none⟩))) (hF.ev 1 rfl) Evs.nil) w)) trivial rfl (gOn 2 rfl rfl rfl (by decide)) (kM [true, false, true, true, true] rfl rfl) (by decide) (PendOk.keep (PendOk.go [10, 5, 4] (by kernel_rfl) (PendOk.go [10, 5, 4] (by kernel_rfl) (PendOk.nil _ [])))) ?_
  clear hH
  rintro _ E52 w ⟨rfl, hD53⟩ hH
  replace hH : HH w0 (bks (([Ed, Ew] : List Hl).flatten)) [E52, E4, [bl gw 55 #[(.slice A36 W.is.length c38), (.slice A40 W.kept.length c42), (.slice A44 W.l.length c46), (.int .i64 (W.fuse)), (.bool (W.gone))]], E39, E43, E47, E30] w := hH
  refine ⟨(by
    intro s hs
    simp only [List.mem_cons, List.not_mem_nil, or_false] at hs
    rcases hs with rfl
    · exact (hH.blk 2 rfl)
    ), ?_⟩
  refine rxV 18 rfl (by kernel_rfl) rfl (gOn 2 rfl rfl rfl (by decide)) (fun _ _ hF => opEqI rfl (hF.ev 0 rfl) (hF.ev 1 rfl) (decide_eq_true (by rw [hl.now]))) (kM [false, false, true, true, true] rfl rfl) (by decide) (v := (.bool true)) ?_
  refine rxV 19 rfl (by kernel_rfl) rfl (fun _ _ => rfl) (fun _ _ hF => opPickT rfl (hF.ev 1 rfl) (hF.ev 0 rfl)) (kM [false, false, true, true] rfl rfl) (by decide) (v := (.bool true)) ?_
  refine rxV 20 rfl (by kernel_rfl) rfl (fun _ _ => rfl) (fun _ _ hF => opMove rfl (hF.ev 0 rfl)) (kM [false, true, true] rfl rfl) (by decide) (v := (.bool true)) ?_
  refine rxV 21 rfl (by kernel_rfl) rfl (gOn 0 rfl rfl rfl (by decide)) (fun _ _ hF => opMove rfl (hF.ev 1 rfl)) (kA rfl) (by decide) (v := (.pointer (some ⟨g, 0, none⟩))) ?_
  refine rxV 23 rfl (by kernel_rfl) rfl (gOn 1 rfl rfl rfl (by decide)) (fun _ _ hF => opMove rfl (hF.ev 3 rfl)) (kA rfl) (by decide) (v := (.pointer (some ⟨gw, 0, none⟩))) ?_
  refine rxV 24 rfl (by kernel_rfl) rfl (gOn 2 rfl rfl rfl (by decide)) (fun _ _ hF => opNilCheck rfl (hF.ev 0 rfl)) (kM [false, true, true, true, true] rfl rfl) (by decide) (v := (.pointer (some ⟨gw, 0, none⟩))) ?_
  refine rxV 25 rfl (by kernel_rfl) rfl (gOn 2 rfl rfl rfl (by decide)) (fun _ _ hF => opField (off := 4) rfl (hF.ev 0 rfl) (by kernel_rfl)) (kM [false, true, true, true, true] rfl rfl) (by decide) (v := (.pointer (some ⟨gw, 4, none⟩))) ?_
  refine rxS (fun w => w.heap[gw]? = some (.cells #[(.slice A36 W.is.length c38), (.slice A40 W.kept.length c42), (.slice A44 W.l.length c46), (.int .i64 (W.fuse)), (.bool (W.gone))] 55 (0, 0))) 26 rfl (by kernel_rfl) rfl (gOn 2 rfl rfl rfl (by decide)) (hH.blk 2 rfl) (fun _ _ hF hS => opLoadK hS rfl (hF.ev 0 rfl) (by kernel_rfl) rfl) (kM [false, true, true, true, true] rfl rfl) (by decide) (v := (.bool (W.gone))) ?_
  refine rx1 22 (by kernel_rfl) ?_
  refine moE 0 rfl hH rfl (fun _ hF => Does.small (down_c g D E52 hD53 ) (fun w => opCall rfl Try.func21 rfl rfl (Evs.cons (v := (.pointer (some ⟨g, 0, none⟩))) (hF.ev 1 rfl) Evs.nil) w)) trivial rfl (gOn 2 rfl rfl rfl (by decide)) (kM [true, false, true, true, true] rfl rfl) (by decide) (PendOk.keep (PendOk.go [20, 19, 18, 17] (by kernel_rfl) (PendOk.nil _ []))) ?_
  clear hH
  rintro _ E54 w ⟨rfl, hD55⟩ hH
  replace hH : HH w0 (bks (([Ed, Ew] : List Hl).flatten)) [E54, E4, [bl gw 55 #[(.slice A36 W.is.length c38), (.slice A40 W.kept.length c42), (.slice A44 W.l.length c46), (.int .i64 (W.fuse)), (.bool (W.gone))]], E39, E43, E47, E30] w := hH
  refine ⟨(by
    intro s hs
    simp only [List.mem_cons, List.not_mem_nil, or_false] at hs
    rcases hs with rfl
    · exact (hH.blk 2 rfl)
    ), ?_⟩
  refine rxV 27 rfl (by kernel_rfl) rfl (gOn 2 rfl rfl rfl (by decide)) (fun _ _ hF => opEqB rfl (by kernel_rfl) (hF.ev 0 rfl) (hF.ev 1 rfl) (by rw [hl.down]; simp)) (kM [false, false, true, true, true] rfl rfl) (by decide) (v := (.bool true)) ?_
  refine rxV 28 rfl (by kernel_rfl) rfl (fun _ _ => rfl) (fun _ _ hF => opPickT rfl (hF.ev 1 rfl) (hF.ev 0 rfl)) (kM [false, false, true, true] rfl rfl) (by decide) (v := (.bool true)) ?_
  refine rxV 29 rfl (by kernel_rfl) rfl (fun _ _ => rfl) (fun _ _ hF => opMove rfl (hF.ev 0 rfl)) (kM [false, true, true] rfl rfl) (by decide) (v := (.bool true)) ?_
  refine rxV 30 rfl (by kernel_rfl) rfl (gOn 0 rfl rfl rfl (by decide)) (fun _ _ hF => opMove rfl (hF.ev 1 rfl)) (kM [true, false, true] rfl rfl) (by decide) (v := (.pointer (some ⟨g, 0, none⟩))) ?_
  refine rxV 32 rfl (by kernel_rfl) rfl (gOn 1 rfl rfl rfl (by decide)) (fun _ _ hF => opMove rfl (hF.ev 2 rfl)) (kM [true, true, false] rfl rfl) (by decide) (v := (.pointer (some ⟨gw, 0, none⟩))) ?_
  refine rxV 33 rfl (by kernel_rfl) rfl (gOn 2 rfl rfl rfl (by decide)) (fun _ _ hF => opNilCheck rfl (hF.ev 0 rfl)) (kM [false, true, true] rfl rfl) (by decide) (v := (.pointer (some ⟨gw, 0, none⟩))) ?_
  refine rxV 34 rfl (by kernel_rfl) rfl (gOn 2 rfl rfl rfl (by decide)) (fun _ _ hF => opField (off := 2) rfl (hF.ev 0 rfl) (by kernel_rfl)) (kM [false, true, true] rfl rfl) (by decide) (v := (.pointer (some ⟨gw, 2, none⟩))) ?_
  refine rxS (fun w => w.heap[gw]? = some (.cells #[(.slice A36 W.is.length c38), (.slice A40 W.kept.length c42), (.slice A44 W.l.length c46), (.int .i64 (W.fuse)), (.bool (W.gone))] 55 (0, 0))) 35 rfl (by kernel_rfl) rfl (gOn 2 rfl rfl rfl (by decide)) (hH.blk 2 rfl) (fun _ _ hF hS => opLoadK hS rfl (hF.ev 0 rfl) (by kernel_rfl) rfl) (kM [false, true, true] rfl rfl) (by decide) (v := (.slice A44 W.l.length c46)) ?_
  refine rxV 36 rfl (by kernel_rfl) rfl (gOn 2 rfl rfl rfl (by decide)) (fun _ _ hF => opLen (e := 63) rfl (by kernel_rfl) (hF.ev 0 rfl)) (kM [false, true, true] rfl rfl) (by decide) (v := (.int .i64 (((W.l.length) : Nat) : Int))) ?_
  refine rx1 31 (by kernel_rfl) ?_
  refine moE 0 rfl hH rfl (fun _ hF => Does.small (unsynced_c g D E54 hD55 ) (fun w => opCall rfl Try.func18 rfl rfl (Evs.cons (v := (.pointer (some ⟨g, 0, none⟩))) (hF.ev 1 rfl) Evs.nil) w)) trivial rfl (gOn 2 rfl rfl rfl (by decide)) (kM [true, false, true] rfl rfl) (by decide) (PendOk.keep (PendOk.go [29, 28, 27] (by kernel_rfl) (PendOk.nil _ []))) ?_
  clear hH
  rintro _ E56 w ⟨rfl, hD57⟩ hH
  replace hH : HH w0 (bks (([Ed, Ew] : List Hl).flatten)) [E56, E4, [bl gw 55 #[(.slice A36 W.is.length c38), (.slice A40 W.kept.length c42), (.slice A44 W.l.length c46), (.int .i64 (W.fuse)), (.bool (W.gone))]], E39, E43, E47, E30] w := hH
  refine ⟨(by
    intro s hs
    simp only [List.mem_cons, List.not_mem_nil, or_false] at hs
    rcases hs with rfl
    · exact (hH.blk 2 rfl)
    ), ?_⟩
  refine rxV 37 rfl (by kernel_rfl) rfl (gOn 2 rfl rfl rfl (by decide)) (fun _ _ hF => opEqI rfl (hF.ev 0 rfl) (hF.ev 1 rfl) (decide_eq_true (by rw [hl.uns]))) (kM [false, false, true] rfl rfl) (by decide) (v := (.bool true)) ?_
  refine rxV 38 rfl (by kernel_rfl) rfl (fun _ _ => rfl) (fun _ _ hF => opPickT rfl (hF.ev 1 rfl) (hF.ev 0 rfl)) (kM [false, false] rfl rfl) (by decide) (v := (.bool true)) ?_
  refine rxV 39 rfl (by kernel_rfl) rfl (fun _ _ => rfl) (fun _ _ hF => opAssign rfl (hF.ev 0 rfl)) (kM [false] rfl rfl) (by decide) (v := (.bool true)) ?_
  refine rxEnd (by kernel_rfl) ?_
  refine qxThen ?_
  refine cxRet ?_
  refine qxRet1 0 rfl rfl ?_
  obtain ⟨E58, hE59, hD60⟩ : ∃ E, E = ([[bl gw 55 #[(.slice A36 W.is.length c38), (.slice A40 W.kept.length c42), (.slice A44 W.l.length c46), (.int .i64 (W.fuse)), (.bool (W.gone))]], E39, E43, E47] : List Hl).flatten ∧ DrAt gw W E := ⟨_, rfl, hD32.ok, _, _, _, _, _, _, _, _, _, _, _, _, rfl, hO48, hO49, hO50⟩
  replace hH : HH w0 (bks (([Ed, Ew] : List Hl).flatten)) [E56, E4, E58, E30] w := hH.cast (by rw [hE59]; simp)
  exact ⟨_, _, rfl, ⟨rfl, _, _, rfl, hD57, hD60⟩, hH.out [true, false, true, false]⟩

abbrev SlH := Option Addr × Nat × Nat
abbrev RawOp := Int × Int × Int × SlH × SlH
def cOp : Cod RawOp := cPair (cInt .i64) (cPair (cInt .i64) (cPair (cInt .i64) (cPair cSl cSl)))

set_option maxHeartbeats 8000000 in
theorem do_c (g gw : Nat) (D : Dk) (W : Dr) (Ed Ew : Hl) (hD : DkAt g D Ed) (hW : DrAt gw W Ew) (hl : Like D W) (kind at_ n : Int) (bytes : List UInt8) (keep : List Bool) (Ab Ak : Option Addr) (cb ck : Nat) (hat : -9223372036854775808 ≤ at_ ∧ at_ ≤ 9223372036854775807) (hn : -9223372036854775808 ≤ n ∧ n ≤ 9223372036854775807) (hb : bytes.length ≤ 140737488355328) (hU : D.uns.length ≤ 900000) (hAb : Off Ab bytes.length (bks ([Ed, Ew] : List Hl).flatten)) (hAk : Off Ak keep.length (bks ([Ed, Ew] : List Hl).flatten)) : Does Try.prog 11 #[(.pointer (some ⟨g, 0, none⟩)), (.pointer (some ⟨gw, 0, none⟩)), (cOp.val (kind, at_, n, (Ab, bytes.length, cb), (Ak, keep.length, ck)))] ([Ed, Ew] : List Hl).flatten (fun w => Vu cByte w Ab bytes.length cb bytes ∧ Vu cBool w Ak keep.length ck keep) (fun v E' => v = .bool true ∧ ∃ E1 E2 D' W', E' = ([E1, E2] : List Hl).flatten ∧ DkAt g D' E1 ∧ DrAt gw W' E2 ∧ Like D' W' ∧ D'.uns.length ≤ D.uns.length + bytes.length / 64 ∧ D'.now.length = D.now.length) := by
  refine does_of (fn := Try.f11) Try.func11 rfl Try.ntmps11 (Nat.le_of_ble_eq_true rfl) rfl ?_
  intro w0 hH hR
  replace hH : HH w0 (bks ([Ed, Ew] : List Hl).flatten) [Ed, Ew] w0 := hH.cast (by simp)
  have hs1 := hD.ok.sz
  have hs2 := hW.ok.sz
  have hmin := hW.ok.min
  have hUW : W.l.length ≤ 900000 := by rw [← hl.uns]; exact hU
  refine cxSeq ?_
  refine cxReg ?_
  refine pxM hH (fun _ hF => smBox rfl (hF.ev 2 rfl) rfl) trivial rfl (fun _ _ => rfl) (kM [true, true, false] rfl rfl) (by decide) ?_
  clear hH
  rintro _ _ w ⟨g1, rfl, rfl⟩ hH
  replace hH : HH w0 (bks (([Ed, Ew] : List Hl).flatten)) [Ed, Ew, [bl g1 33 (cOp.enc (kind, at_, n, (Ab, bytes.length, cb), (Ak, keep.length, ck)))]] w := hH
  refine pxV (v := (.bool false)) (fun _ _ hF => opAssign rfl rfl) rfl (fun _ _ => rfl) (kA rfl) (by decide) ?_
  refine pxEnd ?_
  refine qxThen ?_
  refine cxSeq ?_
  refine cxSeq ?_
  refine cxReg ?_
  refine pxV (v := (.pointer (some ⟨g1, 0, none⟩))) (fun _ _ hF => opField (off := 0) rfl (hF.ev 1 rfl) (by kernel_rfl)) rfl (fun _ _ => rfl) (kM [false, true, true, true] rfl rfl) (by decide) ?_
  refine pxS (v := (.int .i64 (kind))) (fun w => w.heap[g1]? = some (.cells (cOp.enc (kind, at_, n, (Ab, bytes.length, cb), (Ak, keep.length, ck))) 33 (0, 0))) (hH.blk 2 rfl) (fun _ _ hF hS => opLoadT (C := (cInt .i64)) (y := kind) rfl (hF.ev 0 rfl) (by kernel_rfl) (holds_blk0 hS).fst rfl) rfl (fun _ _ => rfl) (kM [false, true, true, true] rfl rfl) (by decide) ?_
  refine pxEnd ?_
  refine qxThen ?_
  refine cxBlock ?_
  refine cxSeq ?_
  refine cxReg ?_
  refine pxV (v := (.bool (decide ((kind) = 1)))) (fun _ _ hF => opEqI rfl (hF.ev 0 rfl) rfl rfl) rfl (fun _ _ => rfl) (kA rfl) (by decide) ?_
  refine pxV (v := (.bool (decide ((kind) = 1)))) (fun _ _ hF => opAssign rfl (hF.ev 0 rfl)) rfl (fun _ _ => rfl) (kM [false, true, true, true, true] rfl rfl) (by decide) ?_
  refine pxEnd ?_
  refine qxThen ?_
  refine cxP 0 rfl rfl (fun hc2 => ?_) (fun hc2 => ?_)
  · refine cxSeq ?_
    refine cxRegX mixedOrders (by kernel_rfl) ?_
    replace hH := hH.drew
    refine rxV 0 rfl (by kernel_rfl) rfl (fun _ _ => rfl) (fun _ _ hF => opMove rfl (hF.ev 3 rfl)) (kM [false, false, true, false, true] rfl rfl) (by decide) (v := (.pointer (some ⟨g, 0, none⟩))) ?_
    refine rxV 1 rfl (by kernel_rfl) rfl (fun _ _ => rfl) (fun _ _ hF => opField (off := 1) rfl (hF.ev 1 rfl) (by kernel_rfl)) (kA rfl) (by decide) (v := (.pointer (some ⟨g1, 1, none⟩))) ?_
    refine rxS (fun w => w.heap[g1]? = some (.cells (cOp.enc (kind, at_, n, (Ab, bytes.length, cb), (Ak, keep.length, ck))) 33 (0, 0))) 2 rfl (by kernel_rfl) rfl (fun _ _ => rfl) (hH.blk 2 rfl) (fun _ _ hF hS => opLoadT (C := (cInt .i64)) (y := at_) rfl (hF.ev 0 rfl) (by kernel_rfl) ((holds_blk0 hS).snd).fst rfl) (kM [false, true, true, true] rfl rfl) (by decide) (v := (.int .i64 (at_))) ?_
    refine rxV 3 rfl (by kernel_rfl) rfl (fun _ _ => rfl) (fun _ _ hF => opField (off := 3) rfl (hF.ev 2 rfl) (by kernel_rfl)) (kA rfl) (by decide) (v := (.pointer (some ⟨g1, 3, none⟩))) ?_
    refine rxS (fun w => w.heap[g1]? = some (.cells (cOp.enc (kind, at_, n, (Ab, bytes.length, cb), (Ak, keep.length, ck))) 33 (0, 0))) 4 rfl (by kernel_rfl) rfl (fun _ _ => rfl) (hH.blk 2 rfl) (fun _ _ hF hS => opLoadT (C := cSl) (y := (Ab, bytes.length, cb)) rfl (hF.ev 0 rfl) (by kernel_rfl) ((((holds_blk0 hS).snd).snd).snd).fst rfl) (kM [false, true, true, true, true] rfl rfl) (by decide) (v := (.slice Ab bytes.length cb)) ?_
    refine rxV 6 rfl (by kernel_rfl) rfl (fun _ _ => rfl) (fun _ _ hF => opMove rfl (hF.ev 4 rfl)) (kM [true, true, true, true, false] rfl rfl) (by decide) (v := (.pointer (some ⟨gw, 0, none⟩))) ?_
    refine rxV 7 rfl (by kernel_rfl) rfl (fun _ _ => rfl) (fun _ _ hF => opField (off := 1) rfl (hF.ev 4 rfl) (by kernel_rfl)) (kA rfl) (by decide) (v := (.pointer (some ⟨g1, 1, none⟩))) ?_
    refine rxS (fun w => w.heap[g1]? = some (.cells (cOp.enc (kind, at_, n, (Ab, bytes.length, cb), (Ak, keep.length, ck))) 33 (0, 0))) 8 rfl (by kernel_rfl) rfl (fun _ _ => rfl) (hH.blk 2 rfl) (fun _ _ hF hS => opLoadT (C := (cInt .i64)) (y := at_) rfl (hF.ev 0 rfl) (by kernel_rfl) ((holds_blk0 hS).snd).fst rfl) (kM [false, true, true, true, true, true] rfl rfl) (by decide) (v := (.int .i64 (at_))) ?_
    refine rxV 9 rfl (by kernel_rfl) rfl (fun _ _ => rfl) (fun _ _ hF => opField (off := 3) rfl (hF.ev 5 rfl) (by kernel_rfl)) (kM [true, true, true, true, true, false] rfl rfl) (by decide) (v := (.pointer (some ⟨g1, 3, none⟩))) ?_
    refine rxS (fun w => w.heap[g1]? = some (.cells (cOp.enc (kind, at_, n, (Ab, bytes.length, cb), (Ak, keep.length, ck))) 33 (0, 0))) 10 rfl (by kernel_rfl) rfl (fun _ _ => rfl) (hH.blk 2 rfl) (fun _ _ hF hS => opLoadT (C := cSl) (y := (Ab, bytes.length, cb)) rfl (hF.ev 0 rfl) (by kernel_rfl) ((((holds_blk0 hS).snd).snd).snd).fst rfl) (kM [false, true, true, true, true, true] rfl rfl) (by decide) (v := (.slice Ab bytes.length cb)) ?_
    refine rx1 5 (by kernel_rfl) ?_
    refine moE 0 rfl hH rfl (fun _ hF => Does.small (write_c g D Ed hD (at_) bytes (by omega) (by omega) Ab cb (hH.off 0 rfl hR.1 (by decide) hAb) (by omega) (by omega) hs1) (fun w => opCall rfl Try.func13 rfl rfl (Evs.cons (v := (.pointer (some ⟨g, 0, none⟩))) (hF.ev 5 rfl) (Evs.cons (v := (.int .i64 (at_))) (hF.ev 4 rfl) (Evs.cons (v := (.slice Ab bytes.length cb)) (hF.ev 3 rfl) Evs.nil))) w)) (hH.vu hR.1 (by decide) hAb) rfl (fun _ _ => rfl) (kM [true, true, true, false, false, false] rfl rfl) (by decide) (PendOk.keep (PendOk.keep (PendOk.go [] (by kernel_rfl) (PendOk.go [] (by kernel_rfl) (PendOk.nil _ []))))) ?_
    clear hH
    rintro _ E3 w ⟨rfl, hD4⟩ hH
    replace hH : HH w0 (bks (([Ed, Ew] : List Hl).flatten)) [E3, Ew, [bl g1 33 (cOp.enc (kind, at_, n, (Ab, bytes.length, cb), (Ak, keep.length, ck)))]] w := hH
    refine ⟨(by
      intro s hs
      simp only [List.mem_cons, List.not_mem_nil, or_false] at hs
      rcases hs with rfl | rfl
      · exact (hH.blk 2 rfl)
      · exact (hH.blk 2 rfl)
      ), ?_⟩
    refine rx1 11 (by kernel_rfl) ?_
    refine moE 1 rfl hH rfl (fun _ hF => Does.small (writeR_c gw W Ew hW (at_) bytes (by omega) (by omega) Ab cb (hH.off 1 rfl hR.1 (by decide) hAb) (by omega) (by omega)) (fun w => opCall rfl Try.func22 rfl rfl (Evs.cons (v := (.pointer (some ⟨gw, 0, none⟩))) (hF.ev 3 rfl) (Evs.cons (v := (.int .i64 (at_))) (hF.ev 2 rfl) (Evs.cons (v := (.slice Ab bytes.length cb)) (hF.ev 1 rfl) Evs.nil))) w)) (hH.vu hR.1 (by decide) hAb) rfl (fun _ _ => rfl) (kM [true, false, false, false] rfl rfl) (by decide) (PendOk.go [] (by kernel_rfl) (PendOk.go [] (by kernel_rfl) (PendOk.nil _ []))) ?_
    clear hH
    rintro _ E5 w ⟨rfl, hD6⟩ hH
    replace hH : HH w0 (bks (([Ed, Ew] : List Hl).flatten)) [E3, E5, [bl g1 33 (cOp.enc (kind, at_, n, (Ab, bytes.length, cb), (Ak, keep.length, ck)))]] w := hH
    refine ⟨(fun _ hs => by cases hs), ?_⟩
    refine rxV 12 rfl (by kernel_rfl) rfl (fun _ _ => rfl) (fun _ _ hF => opEqI rfl (hF.ev 1 rfl) (hF.ev 0 rfl) (decide_eq_true (by rw [(like_writes hl hmin at_ bytes).1]))) (kM [false, false] rfl rfl) (by decide) (v := (.bool true)) ?_
    refine rxV 13 rfl (by kernel_rfl) rfl (fun _ _ => rfl) (fun _ _ hF => opAssign rfl (hF.ev 0 rfl)) (kM [false] rfl rfl) (by decide) (v := (.bool true)) ?_
    refine rxEnd (by kernel_rfl) ?_
    refine qxThen ?_
    refine cxRet ?_
    refine qxInR ?_
    refine qxThenR ?_
    refine qxRet1 0 rfl rfl ?_
    exact ⟨_, _, rfl, ⟨rfl, _, _, _, _, rfl, hD4, hD6, (like_writes hl hmin at_ bytes).2, (writes_uns D at_ bytes).1, (writes_uns D at_ bytes).2⟩, hH.out [true, true, false]⟩
  · refine cxSeq ?_
    refine cxReg ?_
    refine pxV (v := (.bool (decide ((kind) = 2)))) (fun _ _ hF => opEqI rfl (hF.ev 1 rfl) rfl rfl) rfl (fun _ _ => rfl) (kM [false, true, true, true, true] rfl rfl) (by decide) ?_
    refine pxV (v := (.bool (decide ((kind) = 2)))) (fun _ _ hF => opAssign rfl (hF.ev 0 rfl)) rfl (fun _ _ => rfl) (kM [false, true, true, true, true] rfl rfl) (by decide) ?_
    refine pxEnd ?_
    refine qxThen ?_
    refine cxP 0 rfl rfl (fun hc7 => ?_) (fun hc7 => ?_)
    · refine cxSeq ?_
      refine cxReg ?_
      refine pxV (v := (.pointer (some ⟨g, 0, none⟩))) (fun _ _ hF => opMove rfl (hF.ev 3 rfl)) rfl (fun _ _ => rfl) (kM [false, false, false, false, true] rfl rfl) (by decide) ?_
      refine pxE 0 hH rfl (fun _ hF => Does.small (sync_c g D Ed hD (by omega)) (fun w => opCall rfl Try.func15 rfl rfl (Evs.cons (v := (.pointer (some ⟨g, 0, none⟩))) (hF.ev 0 rfl) Evs.nil) w)) trivial rfl (fun _ _ => rfl) (kM [false, true] rfl rfl) (by decide) ?_
      clear hH
      rintro _ E8 w ⟨rfl, hD9⟩ hH
      replace hH : HH w0 (bks (([Ed, Ew] : List Hl).flatten)) [E8, Ew, [bl g1 33 (cOp.enc (kind, at_, n, (Ab, bytes.length, cb), (Ak, keep.length, ck)))]] w := hH
      refine pxV (v := (.pointer (some ⟨gw, 0, none⟩))) (fun _ _ hF => opMove rfl (hF.ev 1 rfl)) rfl (fun _ _ => rfl) (kM [true, false] rfl rfl) (by decide) ?_
      refine pxE 1 hH rfl (fun _ hF => Does.small (syncR_c gw W Ew hW ) (fun w => opCall rfl Try.func23 rfl rfl (Evs.cons (v := (.pointer (some ⟨gw, 0, none⟩))) (hF.ev 0 rfl) Evs.nil) w)) trivial rfl (fun _ _ => rfl) (kM [false, true] rfl rfl) (by decide) ?_
      clear hH
      rintro _ E10 w ⟨rfl, hD11⟩ hH
      replace hH : HH w0 (bks (([Ed, Ew] : List Hl).flatten)) [E8, E10, [bl g1 33 (cOp.enc (kind, at_, n, (Ab, bytes.length, cb), (Ak, keep.length, ck)))]] w := hH
      refine pxV (v := (.bool true)) (fun _ _ hF => opEqI rfl (hF.ev 1 rfl) (hF.ev 0 rfl) (decide_eq_true (by rw [(like_sync hl hmin).1]))) rfl (fun _ _ => rfl) (kM [false, false] rfl rfl) (by decide) ?_
      refine pxV (v := (.bool true)) (fun _ _ hF => opAssign rfl (hF.ev 0 rfl)) rfl (fun _ _ => rfl) (kM [false] rfl rfl) (by decide) ?_
      refine pxEnd ?_
      refine qxThen ?_
      refine cxRet ?_
      refine qxInR ?_
      refine qxThenR ?_
      refine qxRet1 0 rfl rfl ?_
      exact ⟨_, _, rfl, ⟨rfl, _, _, _, _, rfl, hD9, hD11, (like_sync hl hmin).2, Nat.le_trans (sync_uns D).1 (Nat.le_add_right _ _), (sync_uns D).2⟩, hH.out [true, true, false]⟩
    · refine cxSeq ?_
      refine cxReg ?_
      refine pxV (v := (.bool (decide ((kind) = 3)))) (fun _ _ hF => opEqI rfl (hF.ev 1 rfl) rfl rfl) rfl (fun _ _ => rfl) (kM [false, true, true, true, true] rfl rfl) (by decide) ?_
      refine pxV (v := (.bool (decide ((kind) = 3)))) (fun _ _ hF => opAssign rfl (hF.ev 0 rfl)) rfl (fun _ _ => rfl) (kM [false, true, true, true, true] rfl rfl) (by decide) ?_
      refine pxEnd ?_
      refine qxThen ?_
      refine cxP 0 rfl rfl (fun hc12 => ?_) (fun hc12 => ?_)
      · refine cxSeq ?_
        refine cxReg ?_
        refine pxV (v := (.pointer (some ⟨g, 0, none⟩))) (fun _ _ hF => opMove rfl (hF.ev 3 rfl)) rfl (fun _ _ => rfl) (kM [false, false, true, false, true] rfl rfl) (by decide) ?_
        refine pxV (v := (.pointer (some ⟨g1, 2, none⟩))) (fun _ _ hF => opField (off := 2) rfl (hF.ev 1 rfl) (by kernel_rfl)) rfl (fun _ _ => rfl) (kA rfl) (by decide) ?_
        refine pxS (v := (.int .i64 (n))) (fun w => w.heap[g1]? = some (.cells (cOp.enc (kind, at_, n, (Ab, bytes.length, cb), (Ak, keep.length, ck))) 33 (0, 0))) (hH.blk 2 rfl) (fun _ _ hF hS => opLoadT (C := (cInt .i64)) (y := n) rfl (hF.ev 0 rfl) (by kernel_rfl) (((holds_blk0 hS).snd).snd).fst rfl) rfl (fun _ _ => rfl) (kM [false, true, true, true] rfl rfl) (by decide) ?_
        refine pxE 0 hH rfl (fun _ hF => Does.small (setFuse_c g D Ed hD (n) (by omega)) (fun w => opCall rfl Try.func20 rfl rfl (Evs.cons (v := (.pointer (some ⟨g, 0, none⟩))) (hF.ev 1 rfl) (Evs.cons (v := (.int .i64 (n))) (hF.ev 0 rfl) Evs.nil)) w)) trivial rfl (fun _ _ => rfl) (kM [false, false, true, true] rfl rfl) (by decide) ?_
        clear hH
        rintro _ E13 w ⟨rfl, hD14⟩ hH
        replace hH : HH w0 (bks (([Ed, Ew] : List Hl).flatten)) [E13, Ew, [bl g1 33 (cOp.enc (kind, at_, n, (Ab, bytes.length, cb), (Ak, keep.length, ck)))]] w := hH
        refine pxEnd ?_
        refine qxThen ?_
        refine cxSeq ?_
        refine cxReg ?_
        refine pxV (v := (.pointer (some ⟨gw, 0, none⟩))) (fun _ _ hF => opMove rfl (hF.ev 2 rfl)) rfl (fun _ _ => rfl) (kM [false, true, false] rfl rfl) (by decide) ?_
        refine pxV (v := (.pointer (some ⟨g1, 2, none⟩))) (fun _ _ hF => opField (off := 2) rfl (hF.ev 1 rfl) (by kernel_rfl)) rfl (fun _ _ => rfl) (kM [true, false] rfl rfl) (by decide) ?_
        refine pxS (v := (.int .i64 (n))) (fun w => w.heap[g1]? = some (.cells (cOp.enc (kind, at_, n, (Ab, bytes.length, cb), (Ak, keep.length, ck))) 33 (0, 0))) (hH.blk 2 rfl) (fun _ _ hF hS => opLoadT (C := (cInt .i64)) (y := n) rfl (hF.ev 0 rfl) (by kernel_rfl) (((holds_blk0 hS).snd).snd).fst rfl) rfl (fun _ _ => rfl) (kM [false, true] rfl rfl) (by decide) ?_
        refine pxV (v := (.int .i64 (max (n) (-1)))) (fun _ _ hF => opMax rfl (hF.ev 0 rfl) rfl rfl) rfl (fun _ _ => rfl) (kM [false, true] rfl rfl) (by decide) ?_
        refine pxV (v := (.pointer (some ⟨gw, 0, none⟩))) (fun _ _ hF => opNilCheck rfl (hF.ev 1 rfl)) rfl (fun _ _ => rfl) (kM [true, false] rfl rfl) (by decide) ?_
        refine pxV (v := (.pointer (some ⟨gw, 3, none⟩))) (fun _ _ hF => opField (off := 3) rfl (hF.ev 0 rfl) (by kernel_rfl)) rfl (fun _ _ => rfl) (kM [false, true] rfl rfl) (by decide) ?_
        obtain ⟨A15, n16, c17, E18, A19, n20, c21, E22, A23, n24, c25, E26, hE30, hO27, hO28, hO29⟩ := hW.at'
        obtain rfl : n16 = W.is.length := hO27.len
        obtain rfl : n20 = W.kept.length := hO28.len
        obtain rfl : n24 = W.l.length := hO29.len
        replace hH : HH w0 (bks (([Ed, Ew] : List Hl).flatten)) [E13, [bl gw 55 #[(.slice A15 W.is.length c17), (.slice A19 W.kept.length c21), (.slice A23 W.l.length c25), (.int .i64 (W.fuse)), (.bool (W.gone))]], E18, E22, E26, [bl g1 33 (cOp.enc (kind, at_, n, (Ab, bytes.length, cb), (Ak, keep.length, ck)))]] w := hH.cast (by rw [hE30]; simp)
        refine pxE0 1 hH rfl (fun _ hF => smStore (v := (.int .i64 (max (n) (-1)))) rfl (hF.ev 0 rfl) (hF.ev 1 rfl) (by kernel_rfl) (ltb rfl) rfl rfl) trivial rfl (fun _ _ => rfl) ?_
        clear hH
        rintro _ _ w rfl hH
        replace hH : HH w0 (bks (([Ed, Ew] : List Hl).flatten)) [E13, [bl gw 55 #[(.slice A15 W.is.length c17), (.slice A19 W.kept.length c21), (.slice A23 W.l.length c25), (.int .i64 (max (n) (-1))), (.bool (W.gone))]], E18, E22, E26, [bl g1 33 (cOp.enc (kind, at_, n, (Ab, bytes.length, cb), (Ak, keep.length, ck)))]] w := hH
        refine pxEnd ?_
        refine qxThen ?_
        refine cxSeq ?_
        refine cxReg ?_
        refine pxV (v := (.bool true)) (fun _ _ hF => opAssign rfl rfl) rfl (fun _ _ => rfl) (kM [false, false] rfl rfl) (by decide) ?_
        refine pxEnd ?_
        refine qxThen ?_
        refine cxRet ?_
        refine qxInR ?_
        refine qxThenR ?_
        refine qxRet1 0 rfl rfl ?_
        obtain ⟨E31, hE32, hD33⟩ : ∃ E, E = ([[bl gw 55 #[(.slice A15 W.is.length c17), (.slice A19 W.kept.length c21), (.slice A23 W.l.length c25), (.int .i64 (max (n) (-1))), (.bool (W.gone))]], E18, E22, E26] : List Hl).flatten ∧ DrAt gw ({ W with fuse := max n (-1) } : Dr) E := ⟨_, rfl, ⟨hW.ok.nn, hW.ok.sz, hW.ok.l, (by show -1 ≤ max n (-1); omega), (by show max n (-1) ≤ _; omega)⟩, _, _, _, _, _, _, _, _, _, _, _, _, rfl, hO27, hO28, hO29⟩
        replace hH : HH w0 (bks (([Ed, Ew] : List Hl).flatten)) [E13, E31, [bl g1 33 (cOp.enc (kind, at_, n, (Ab, bytes.length, cb), (Ak, keep.length, ck)))]] w := hH.cast (by rw [hE32]; simp)
        exact ⟨_, _, rfl, ⟨rfl, _, _, _, _, rfl, hD14, hD33, like_fuse hl n, Nat.le_add_right _ _, rfl⟩, hH.out [true, true, false]⟩
      · refine cxSeq ?_
        refine cxReg ?_
        refine pxV (v := (.bool (decide ((kind) = 4)))) (fun _ _ hF => opEqI rfl (hF.ev 1 rfl) rfl rfl) rfl (fun _ _ => rfl) (kM [false, false, true, true, true] rfl rfl) (by decide) ?_
        refine pxV (v := (.bool (decide ((kind) = 4)))) (fun _ _ hF => opAssign rfl (hF.ev 0 rfl)) rfl (fun _ _ => rfl) (kM [false, true, true, true] rfl rfl) (by decide) ?_
        refine pxEnd ?_
        refine qxThen ?_
        refine cxP 0 rfl rfl (fun hc34 => ?_) (fun hc34 => ?_)
        · refine cxSeq ?_
          refine cxReg ?_
          refine pxV (v := (.pointer (some ⟨g, 0, none⟩))) (fun _ _ hF => opMove rfl (hF.ev 2 rfl)) rfl (fun _ _ => rfl) (kM [false, true, false, true] rfl rfl) (by decide) ?_
          refine pxV (v := (.pointer (some ⟨g1, 4, none⟩))) (fun _ _ hF => opField (off := 4) rfl (hF.ev 1 rfl) (by kernel_rfl)) rfl (fun _ _ => rfl) (kA rfl) (by decide) ?_
          refine pxS (v := (.slice Ak keep.length ck)) (fun w => w.heap[g1]? = some (.cells (cOp.enc (kind, at_, n, (Ab, bytes.length, cb), (Ak, keep.length, ck))) 33 (0, 0))) (hH.blk 2 rfl) (fun _ _ hF hS => opLoadT (C := cSl) (y := (Ak, keep.length, ck)) rfl (hF.ev 0 rfl) (by kernel_rfl) ((((holds_blk0 hS).snd).snd).snd).snd rfl) rfl (fun _ _ => rfl) (kM [false, true, true, true] rfl rfl) (by decide) ?_
          refine pxE 0 hH rfl (fun _ hF => Does.small (crash_c g D Ed hD keep Ak ck (hH.off 0 rfl hR.2 (by decide) hAk) (by omega)) (fun w => opCall rfl Try.func16 rfl rfl (Evs.cons (v := (.pointer (some ⟨g, 0, none⟩))) (hF.ev 1 rfl) (Evs.cons (v := (.slice Ak keep.length ck)) (hF.ev 0 rfl) Evs.nil)) w)) (hH.vu hR.2 (by decide) hAk) rfl (fun _ _ => rfl) (kM [false, false, true, true] rfl rfl) (by decide) ?_
          clear hH
          rintro _ E35 w ⟨rfl, hD36⟩ hH
          replace hH : HH w0 (bks (([Ed, Ew] : List Hl).flatten)) [E35, Ew, [bl g1 33 (cOp.enc (kind, at_, n, (Ab, bytes.length, cb), (Ak, keep.length, ck)))]] w := hH
          refine pxEnd ?_
          refine qxThen ?_
          refine cxSeq ?_
          refine cxReg ?_
          refine pxV (v := (.pointer (some ⟨gw, 0, none⟩))) (fun _ _ hF => opMove rfl (hF.ev 2 rfl)) rfl (fun _ _ => rfl) (kM [false, true, false] rfl rfl) (by decide) ?_
          refine pxV (v := (.pointer (some ⟨g1, 4, none⟩))) (fun _ _ hF => opField (off := 4) rfl (hF.ev 1 rfl) (by kernel_rfl)) rfl (fun _ _ => rfl) (kM [true, false] rfl rfl) (by decide) ?_
          refine pxS (v := (.slice Ak keep.length ck)) (fun w => w.heap[g1]? = some (.cells (cOp.enc (kind, at_, n, (Ab, bytes.length, cb), (Ak, keep.length, ck))) 33 (0, 0))) (hH.blk 2 rfl) (fun _ _ hF hS => opLoadT (C := cSl) (y := (Ak, keep.length, ck)) rfl (hF.ev 0 rfl) (by kernel_rfl) ((((holds_blk0 hS).snd).snd).snd).snd rfl) rfl (fun _ _ => rfl) (kM [false, true] rfl rfl) (by decide) ?_
          refine pxE 1 hH rfl (fun _ hF => Does.small (crashR_c gw W Ew hW keep Ak ck (hH.off 1 rfl hR.2 (by decide) hAk) (by omega)) (fun w => opCall rfl Try.func24 rfl rfl (Evs.cons (v := (.pointer (some ⟨gw, 0, none⟩))) (hF.ev 1 rfl) (Evs.cons (v := (.slice Ak keep.length ck)) (hF.ev 0 rfl) Evs.nil)) w)) (hH.vu hR.2 (by decide) hAk) rfl (fun _ _ => rfl) (kM [false, false] rfl rfl) (by decide) ?_
          clear hH
          rintro _ E37 w ⟨rfl, hD38⟩ hH
          replace hH : HH w0 (bks (([Ed, Ew] : List Hl).flatten)) [E35, E37, [bl g1 33 (cOp.enc (kind, at_, n, (Ab, bytes.length, cb), (Ak, keep.length, ck)))]] w := hH
          refine pxEnd ?_
          refine qxThen ?_
          refine cxSeq ?_
          refine cxReg ?_
          refine pxV (v := (.bool true)) (fun _ _ hF => opAssign rfl rfl) rfl (fun _ _ => rfl) (kM [false] rfl rfl) (by decide) ?_
          refine pxEnd ?_
          refine qxThen ?_
          refine cxRet ?_
          refine qxInR ?_
          refine qxThenR ?_
          refine qxRet1 0 rfl rfl ?_
          exact ⟨_, _, rfl, ⟨rfl, _, _, _, _, rfl, hD36, hD38, like_crash hl keep, Nat.zero_le _, crash_now D keep⟩, hH.out [true, true, false]⟩
        · refine cxSkip ?_
          refine qxInN ?_
          refine qxThen ?_
          refine cxSeq ?_
          refine cxReg ?_
          refine pxV (v := (.pointer (some ⟨g, 0, none⟩))) (fun _ _ hF => opMove rfl (hF.ev 2 rfl)) rfl (fun _ _ => rfl) (kM [false, true, false, true] rfl rfl) (by decide) ?_
          refine pxV (v := (.pointer (some ⟨g1, 1, none⟩))) (fun _ _ hF => opField (off := 1) rfl (hF.ev 1 rfl) (by kernel_rfl)) rfl (fun _ _ => rfl) (kA rfl) (by decide) ?_
          refine pxS (v := (.int .i64 (at_))) (fun w => w.heap[g1]? = some (.cells (cOp.enc (kind, at_, n, (Ab, bytes.length, cb), (Ak, keep.length, ck))) 33 (0, 0))) (hH.blk 2 rfl) (fun _ _ hF hS => opLoadT (C := (cInt .i64)) (y := at_) rfl (hF.ev 0 rfl) (by kernel_rfl) ((holds_blk0 hS).snd).fst rfl) rfl (fun _ _ => rfl) (kM [false, true, true, true] rfl rfl) (by decide) ?_
          refine pxV (v := (.pointer (some ⟨g1, 2, none⟩))) (fun _ _ hF => opField (off := 2) rfl (hF.ev 2 rfl) (by kernel_rfl)) rfl (fun _ _ => rfl) (kA rfl) (by decide) ?_
          refine pxS (v := (.int .i64 (n))) (fun w => w.heap[g1]? = some (.cells (cOp.enc (kind, at_, n, (Ab, bytes.length, cb), (Ak, keep.length, ck))) 33 (0, 0))) (hH.blk 2 rfl) (fun _ _ hF hS => opLoadT (C := (cInt .i64)) (y := n) rfl (hF.ev 0 rfl) (by kernel_rfl) (((holds_blk0 hS).snd).snd).fst rfl) rfl (fun _ _ => rfl) (kM [false, true, true, true, true] rfl rfl) (by decide) ?_
          refine pxE 0 hH rfl (fun _ hF => Does.small (read_c g D Ed hD (at_) (n) (by omega) (by omega) hD.ok.sz) (fun w => opCall rfl Try.func17 rfl rfl (Evs.cons (v := (.pointer (some ⟨g, 0, none⟩))) (hF.ev 2 rfl) (Evs.cons (v := (.int .i64 (at_))) (hF.ev 1 rfl) (Evs.cons (v := (.int .i64 (n))) (hF.ev 0 rfl) Evs.nil))) w)) trivial rfl (fun _ _ => rfl) (kM [false, false, false, true, true] rfl rfl) (by decide) ?_
          clear hH
          rintro _ _ w ⟨s39, E40, E41, rfl, rfl, hD42, hO43⟩ hH
          replace hH : HH w0 (bks (([Ed, Ew] : List Hl).flatten)) [([E41, E40] : List Hl).flatten, Ew, [bl g1 33 (cOp.enc (kind, at_, n, (Ab, bytes.length, cb), (Ak, keep.length, ck)))]] w := hH
          obtain ⟨A44, c45, rfl⟩ := hO43.slice
          replace hH : HH w0 (bks (([Ed, Ew] : List Hl).flatten)) [E41, E40, Ew, [bl g1 33 (cOp.enc (kind, at_, n, (Ab, bytes.length, cb), (Ak, keep.length, ck)))]] w := hH.cast (by simp)
          refine pxV (v := (.tuple #[(.slice A44 ((D.reads (at_) (n)).2.length) c45), (.int .i64 ((((D.reads (at_) (n)).1) : Nat) : Int))])) (fun _ _ hF => opMove rfl (hF.ev 0 rfl)) rfl (fun _ _ => rfl) (kM [false, true, true] rfl rfl) (by decide) ?_
          refine pxV (v := (.slice A44 ((D.reads (at_) (n)).2.length) c45)) (fun _ _ hF => opExtract rfl (hF.ev 0 rfl) rfl) rfl (fun _ _ => rfl) (kA rfl) (by decide) ?_
          refine pxV (v := (.int .i64 ((((D.reads (at_) (n)).1) : Nat) : Int))) (fun _ _ hF => opExtract rfl (hF.ev 1 rfl) rfl) rfl (fun _ _ => rfl) (kM [true, false, true, true] rfl rfl) (by decide) ?_
          refine pxV (v := (.slice A44 ((D.reads (at_) (n)).2.length) c45)) (fun _ _ hF => opAssign rfl (hF.ev 1 rfl)) rfl (fun _ _ => rfl) (kM [true, false, true, true] rfl rfl) (by decide) ?_
          refine pxV (v := (.int .i64 ((((D.reads (at_) (n)).1) : Nat) : Int))) (fun _ _ hF => opAssign rfl (hF.ev 1 rfl)) rfl (fun _ _ => rfl) (kM [true, false, true, true] rfl rfl) (by decide) ?_
          refine pxEnd ?_
          refine qxThen ?_
          refine cxSeq ?_
          refine cxReg ?_
          refine pxV (v := (.pointer (some ⟨gw, 0, none⟩))) (fun _ _ hF => opMove rfl (hF.ev 3 rfl)) rfl (fun _ _ => rfl) (kM [true, true, true, false] rfl rfl) (by decide) ?_
          refine pxV (v := (.pointer (some ⟨g1, 1, none⟩))) (fun _ _ hF => opField (off := 1) rfl (hF.ev 3 rfl) (by kernel_rfl)) rfl (fun _ _ => rfl) (kA rfl) (by decide) ?_
          refine pxS (v := (.int .i64 (at_))) (fun w => w.heap[g1]? = some (.cells (cOp.enc (kind, at_, n, (Ab, bytes.length, cb), (Ak, keep.length, ck))) 33 (0, 0))) (hH.blk 3 rfl) (fun _ _ hF hS => opLoadT (C := (cInt .i64)) (y := at_) rfl (hF.ev 0 rfl) (by kernel_rfl) ((holds_blk0 hS).snd).fst rfl) rfl (fun _ _ => rfl) (kM [false, true, true, true, true] rfl rfl) (by decide) ?_
          refine pxV (v := (.pointer (some ⟨g1, 2, none⟩))) (fun _ _ hF => opField (off := 2) rfl (hF.ev 4 rfl) (by kernel_rfl)) rfl (fun _ _ => rfl) (kM [true, true, true, true, false] rfl rfl) (by decide) ?_
          refine pxS (v := (.int .i64 (n))) (fun w => w.heap[g1]? = some (.cells (cOp.enc (kind, at_, n, (Ab, bytes.length, cb), (Ak, keep.length, ck))) 33 (0, 0))) (hH.blk 3 rfl) (fun _ _ hF hS => opLoadT (C := (cInt .i64)) (y := n) rfl (hF.ev 0 rfl) (by kernel_rfl) (((holds_blk0 hS).snd).snd).fst rfl) rfl (fun _ _ => rfl) (kM [false, true, true, true, true] rfl rfl) (by decide) ?_
          refine pxE 2 hH rfl (fun _ hF => Does.small (readR_c gw W Ew hW (at_) (n) (by omega) (by omega)) (fun w => opCall rfl Try.func25 rfl rfl (Evs.cons (v := (.pointer (some ⟨gw, 0, none⟩))) (hF.ev 2 rfl) (Evs.cons (v := (.int .i64 (at_))) (hF.ev 1 rfl) (Evs.cons (v := (.int .i64 (n))) (hF.ev 0 rfl) Evs.nil))) w)) trivial rfl (fun _ _ => rfl) (kM [false, false, false, true, true] rfl rfl) (by decide) ?_
          clear hH
          rintro _ _ w ⟨s46, E47, E48, rfl, rfl, hD49, hO50⟩ hH
          replace hH : HH w0 (bks (([Ed, Ew] : List Hl).flatten)) [E41, E40, ([E48, E47] : List Hl).flatten, [bl g1 33 (cOp.enc (kind, at_, n, (Ab, bytes.length, cb), (Ak, keep.length, ck)))]] w := hH
          obtain ⟨A51, c52, rfl⟩ := hO50.slice
          replace hH : HH w0 (bks (([Ed, Ew] : List Hl).flatten)) [E41, E40, E48, E47, [bl g1 33 (cOp.enc (kind, at_, n, (Ab, bytes.length, cb), (Ak, keep.length, ck)))]] w := hH.cast (by simp)
          refine pxV (v := (.tuple #[(.slice A51 ((W.reads (at_) (n)).2.length) c52), (.int .i64 ((((W.reads (at_) (n)).1) : Nat) : Int))])) (fun _ _ hF => opMove rfl (hF.ev 0 rfl)) rfl (fun _ _ => rfl) (kM [false, true, true] rfl rfl) (by decide) ?_
          refine pxV (v := (.slice A51 ((W.reads (at_) (n)).2.length) c52)) (fun _ _ hF => opExtract rfl (hF.ev 0 rfl) rfl) rfl (fun _ _ => rfl) (kA rfl) (by decide) ?_
          refine pxV (v := (.int .i64 ((((W.reads (at_) (n)).1) : Nat) : Int))) (fun _ _ hF => opExtract rfl (hF.ev 1 rfl) rfl) rfl (fun _ _ => rfl) (kM [true, false, true, true] rfl rfl) (by decide) ?_
          refine pxV (v := (.slice A51 ((W.reads (at_) (n)).2.length) c52)) (fun _ _ hF => opAssign rfl (hF.ev 1 rfl)) rfl (fun _ _ => rfl) (kM [true, false, true, true] rfl rfl) (by decide) ?_
          refine pxV (v := (.int .i64 ((((W.reads (at_) (n)).1) : Nat) : Int))) (fun _ _ hF => opAssign rfl (hF.ev 1 rfl)) rfl (fun _ _ => rfl) (kM [true, false, true, true] rfl rfl) (by decide) ?_
          refine pxEnd ?_
          refine qxThen ?_
          refine cxSeq ?_
          refine cxReg ?_
          refine pxV (v := (.slice A44 ((D.reads (at_) (n)).2.length) c45)) (fun _ _ hF => opMove rfl (hF.ev 3 rfl)) rfl (fun _ _ => rfl) (kM [true, true, true, false] rfl rfl) (by decide) ?_
          refine pxS (v := (.string (strL ((D.reads (at_) (n)).2)))) (fun w => Vu cByte w A44 ((D.reads (at_) (n)).2.length) c45 ((D.reads (at_) (n)).2)) (hO43.vuAt (hH.has 1 rfl)) (fun _ _ hF hS => opStr (e := 5) rfl (by kernel_rfl) (by kernel_rfl) (by kernel_rfl) (hF.ev 0 rfl) hS) rfl (fun _ _ => rfl) (kM [false, true, true, true] rfl rfl) (by decide) ?_
          refine pxV (v := (.slice A51 ((W.reads (at_) (n)).2.length) c52)) (fun _ _ hF => opMove rfl (hF.ev 2 rfl)) rfl (fun _ _ => rfl) (kM [true, true, false, true] rfl rfl) (by decide) ?_
          refine pxS (v := (.string (strL ((W.reads (at_) (n)).2)))) (fun w => Vu cByte w A51 ((W.reads (at_) (n)).2.length) c52 ((W.reads (at_) (n)).2)) (hO50.vuAt (hH.has 3 rfl)) (fun _ _ hF hS => opStr (e := 5) rfl (by kernel_rfl) (by kernel_rfl) (by kernel_rfl) (hF.ev 0 rfl) hS) rfl (fun _ _ => rfl) (kM [false, true, true, true] rfl rfl) (by decide) ?_
          refine pxV (v := (.bool true)) (fun _ _ hF => opEqS rfl (hF.ev 1 rfl) (hF.ev 0 rfl) (decide_eq_true (by rw [like_reads hl]))) rfl (fun _ _ => rfl) (kM [false, false, true, true] rfl rfl) (by decide) ?_
          refine pxV (v := (.bool true)) (fun _ _ hF => opMove rfl (hF.ev 0 rfl)) rfl (fun _ _ => rfl) (kM [false, true, true] rfl rfl) (by decide) ?_
          refine pxV (v := (.int .i64 ((((D.reads (at_) (n)).1) : Nat) : Int))) (fun _ _ hF => opMove rfl (hF.ev 2 rfl)) rfl (gOn 0 rfl rfl rfl (by decide)) (kM [true, true, false] rfl rfl) (by decide) ?_
          refine pxV (v := (.int .i64 ((((W.reads (at_) (n)).1) : Nat) : Int))) (fun _ _ hF => opMove rfl (hF.ev 2 rfl)) rfl (gOn 1 rfl rfl rfl (by decide)) (kM [true, true, false] rfl rfl) (by decide) ?_
          refine pxV (v := (.bool true)) (fun _ _ hF => opEqI rfl (hF.ev 1 rfl) (hF.ev 0 rfl) (decide_eq_true (by rw [like_reads hl]))) rfl (gOn 2 rfl rfl rfl (by decide)) (kM [false, false, true] rfl rfl) (by decide) ?_
          refine pxV (v := (.bool true)) (fun _ _ hF => opPickT rfl (hF.ev 1 rfl) (hF.ev 0 rfl)) rfl (fun _ _ => rfl) (kM [false, false] rfl rfl) (by decide) ?_
          refine pxV (v := (.bool true)) (fun _ _ hF => opAssign rfl (hF.ev 0 rfl)) rfl (fun _ _ => rfl) (kM [false] rfl rfl) (by decide) ?_
          refine pxEnd ?_
          refine qxThen ?_
          refine cxRet ?_
          refine qxRet1 0 rfl rfl ?_
          exact ⟨_, _, rfl, ⟨rfl, _, _, _, _, rfl, hD42, hD49, hl, Nat.le_add_right _ _, rfl⟩, hH.out [true, false, true, false, false]⟩

def lenB (x : RawOp) : Nat := x.2.2.2.1.2.1
def lenK (x : RawOp) : Nat := x.2.2.2.2.2.1
def tot (l : List RawOp) : Nat := (l.map lenB).sum
theorem tot_take {l : List RawOp} {i : Nat} {x : RawOp} (hx : l[i]? = some x) : tot (l.take (i + 1)) = tot (l.take i) + lenB x := by
  unfold tot
  rw [List.take_add_one, hx]
  simp

set_option maxHeartbeats 8000000 in
theorem few_c (raws : List RawOp) (A : Option Addr) (c : Nat) (hbig : ∀ x ∈ raws, lenB x ≤ 140737488355328) (hlen : raws.length ≤ 140737488355328) : Does Try.prog 8 #[(.slice A raws.length c)] [] (fun w => Vu cOp w A raws.length c raws) (fun v E' => E' = [] ∧ ∃ b, v = .bool b ∧ (b = true → raws.length ≤ 100 ∧ tot raws ≤ 30000)) := by
  refine does_of (fn := Try.f8) Try.func8 rfl Try.ntmps8 (Nat.le_of_ble_eq_true rfl) rfl ?_
  intro w0 hH hR
  replace hH : HH w0 [] [] w0 := hH.only [false]
  refine cxSeq ?_
  refine cxReg ?_
  refine pxV (v := (.bool false)) (fun _ _ hF => opAssign rfl rfl) rfl (fun _ _ => rfl) (kA rfl) (by decide) ?_
  refine pxEnd ?_
  refine qxThen ?_
  refine cxSeq ?_
  refine cxReg ?_
  refine pxV (v := (.int .i64 0)) (fun _ _ hF => opAssign rfl rfl) rfl (fun _ _ => rfl) (kM [false, true] rfl rfl) (by decide) ?_
  refine pxEnd ?_
  refine qxThen ?_
  refine cxSeq ?_
  refine cxSeq ?_
  refine cxReg ?_
  refine pxV (v := (.slice A raws.length c)) (fun _ _ hF => opMove rfl (hF.ev 1 rfl)) rfl (fun _ _ => rfl) (kA rfl) (by decide) ?_
  refine pxV (v := (.int .i64 (((raws.length) : Nat) : Int))) (fun _ _ hF => opLen (e := 33) rfl (by kernel_rfl) (hF.ev 0 rfl)) rfl (fun _ _ => rfl) (kM [false, true, true] rfl rfl) (by decide) ?_
  refine pxV (v := (.int .i64 0)) (fun _ _ hF => opMove rfl rfl) rfl (fun _ _ => rfl) (kA rfl) (by decide) ?_
  refine pxEnd ?_
  refine qxThen ?_
  refine cxBlock ?_
  refine cxLoop (σ := Nat × Nat) (fun x => [(7, (.int .i64 (((x.1) : Nat) : Int))), (6, (.int .i64 (((raws.length) : Nat) : Int))), (3, (.int .i64 (((x.2) : Nat) : Int))), (0, (.slice A raws.length c))]) (fun x w => HH w0 [] [] w ∧ (x.1 ≤ raws.length) ∧ (x.1 ≤ 100) ∧ (x.2 ≤ 30000) ∧ (x.2 = tot (raws.take x.1))) (fun x => raws.length - x.1) (0, 0) ⟨hH, (Nat.zero_le _), (Nat.zero_le _), (Nat.zero_le _), rfl⟩ (slots_at [0, 1, 2, 3] rfl) ?_
  clear hH
  rintro ⟨i, s⟩ w ⟨hH, hi, h100, hs, hT⟩
  change CX _ _ _ _ [(7, (.int .i64 (((i) : Nat) : Int))), (6, (.int .i64 (((raws.length) : Nat) : Int))), (3, (.int .i64 (((s) : Nat) : Int))), (0, (.slice A raws.length c))] _
  replace hH : HH w0 [] [] w := hH
  replace hi : i ≤ raws.length := hi
  replace h100 : i ≤ 100 := h100
  replace hs : s ≤ 30000 := hs
  replace hT : s = tot (raws.take i) := hT
  refine cxSeq ?_
  refine cxReg ?_
  refine pxV (v := (.bool (decide (i < raws.length)))) (fun _ _ hF => opLss rfl (hF.ev 0 rfl) (hF.ev 1 rfl) (dc (by omega))) rfl (fun _ _ => rfl) (kA rfl) (by decide) ?_
  refine pxEnd ?_
  refine qxThen ?_
  refine cxSeq ?_
  refine cxP 0 rfl rfl (fun hc1 => ?_) (fun hc1 => ?_)
  · refine cxSkip ?_
    refine qxThen ?_
    refine cxSeq ?_
    refine cxBlock ?_
    refine cxSeq ?_
    refine cxReg ?_
    refine pxV (v := (.int .i64 (((i) : Nat) : Int))) (fun _ _ hF => opMove rfl (hF.ev 1 rfl)) rfl (fun _ _ => rfl) (kM [false, true, true, true, true] rfl rfl) (by decide) ?_
    refine pxV (v := (.int .i64 (((i) : Nat) : Int))) (fun _ _ hF => opAssign rfl (hF.ev 0 rfl)) rfl (fun _ _ => rfl) (kM [false, true, true, true, true] rfl rfl) (by decide) ?_
    refine pxEnd ?_
    refine qxThen ?_
    refine cxSeq ?_
    obtain ⟨x0, hx0⟩ := get_at raws i (by omega)
    have hb0 := hbig _ (List.mem_of_getElem? hx0)
    refine cxReg ?_
    refine pxV (v := (.int .i64 (((s) : Nat) : Int))) (fun _ _ hF => opMove rfl (hF.ev 3 rfl)) rfl (fun _ _ => rfl) (kM [true, true, true, false, true] rfl rfl) (by decide) ?_
    refine pxV (v := (.slice A raws.length c)) (fun _ _ hF => opMove rfl (hF.ev 4 rfl)) rfl (fun _ _ => rfl) (kA rfl) (by decide) ?_
    refine pxV (v := (.int .i64 (((i) : Nat) : Int))) (fun _ _ hF => opMove rfl (hF.ev 2 rfl)) rfl (fun _ _ => rfl) (kA rfl) (by decide) ?_
    have hi2 : i < raws.length := by omega
    obtain ⟨b3, off4, rfl, hL5, hb6, hR7⟩ := hR.blk (by decide) (Off.nil _ _) (by omega)
    have := hR.cap
    have hj10 : i < raws.length := by first | exact hi2 | (simp only [List.length_drop, List.length_take]; omega) | omega
    obtain ⟨x8, hx9⟩ := get_at raws i hj10
    refine pxV (v := (.pointer (some ⟨b3, off4 + i * 5, none⟩))) (fun _ _ hF => opIndex (i := i) (e := 33) (sz := 5) rfl (by kernel_rfl) (by kernel_rfl) (hF.ev 1 rfl) (hF.ev 0 rfl) rfl hi2) rfl (fun _ _ => rfl) (kM [false, false, true, true, true, true, true] rfl rfl) (by decide) ?_
    refine pxV (v := (.pointer (some ⟨b3, off4 + i * 5 + 3, none⟩))) (fun _ _ hF => opField (off := 3) rfl (hF.ev 0 rfl) (by kernel_rfl)) rfl (fun _ _ => rfl) (kM [false, true, true, true, true, true] rfl rfl) (by decide) ?_
    refine pxS (v := (.slice x8.2.2.2.1.1 x8.2.2.2.1.2.1 x8.2.2.2.1.2.2)) (fun w => HoldsL cOp w b3 off4 raws) (hH.holdsL hL5 hb6 hR7) (fun _ _ hF hS => opLoadT (C := cSl) (y := x8.2.2.2.1) rfl (hF.ev 0 rfl) (by kernel_rfl) ((((hS i _ hx9).snd).snd).snd).fst rfl) rfl (fun _ _ => rfl) (kM [false, true, true, true, true, true] rfl rfl) (by decide) ?_
    refine pxV (v := (.int .i64 (((x8.2.2.2.1.2.1) : Nat) : Int))) (fun _ _ hF => opLen (e := 5) rfl (by kernel_rfl) (hF.ev 0 rfl)) rfl (fun _ _ => rfl) (kM [false, true, true, true, true, true] rfl rfl) (by decide) ?_
    refine pxV (v := (.int .i64 (((s + lenB x0) : Nat) : Int))) (fun _ _ hF => opAdd rfl (hF.ev 1 rfl) (hF.ev 0 rfl) (wI (by have e : x8 = x0 := Option.some.inj (hx9.symm.trans hx0); subst e; rfl) (by omega) (by omega))) rfl (fun _ _ => rfl) (kM [false, false, true, true, true, true] rfl rfl) (by decide) ?_
    refine pxV (v := (.int .i64 (((s + lenB x0) : Nat) : Int))) (fun _ _ hF => opAssign rfl (hF.ev 0 rfl)) rfl (fun _ _ => rfl) (kM [false, true, true, true, true] rfl rfl) (by decide) ?_
    refine pxEnd ?_
    refine qxThen ?_
    refine cxSeq ?_
    refine cxReg ?_
    refine pxV (v := (.int .i64 (((i) : Nat) : Int))) (fun _ _ hF => opMove rfl (hF.ev 1 rfl)) rfl (fun _ _ => rfl) (kA rfl) (by decide) ?_
    refine pxV (v := (.bool (decide (i ≥ 100)))) (fun _ _ hF => opGeq rfl (hF.ev 0 rfl) rfl (dc (by omega))) rfl (fun _ _ => rfl) (kM [false, true, true, true, true, true] rfl rfl) (by decide) ?_
    refine pxV (v := (.bool (decide (i ≥ 100)))) (fun _ _ hF => opMove rfl (hF.ev 0 rfl)) rfl (fun _ _ => rfl) (kM [false, true, true, true, true, true] rfl rfl) (by decide) ?_
    refine pxSplitP 0 rfl (l1 := [(20, (.bool true)), (3, (.int .i64 (((s + lenB x0) : Nat) : Int))), (4, (.int .i64 (((i) : Nat) : Int))), (7, (.int .i64 (((i) : Nat) : Int))), (6, (.int .i64 (((raws.length) : Nat) : Int))), (0, (.slice (some ⟨b3, off4, none⟩) raws.length c))]) (l2 := [(20, (.bool false)), (3, (.int .i64 (((s + lenB x0) : Nat) : Int))), (4, (.int .i64 (((i) : Nat) : Int))), (7, (.int .i64 (((i) : Nat) : Int))), (6, (.int .i64 (((raws.length) : Nat) : Int))), (0, (.slice (some ⟨b3, off4, none⟩) raws.length c))]) rfl rfl (fun hg11 => ?_) (fun hg11 => ?_)
    · refine pxU rfl (gOff 0 rfl rfl rfl (by decide)) (kA rfl) (by decide) ?_
      refine pxU rfl (gOff 0 rfl rfl rfl (by decide)) (kA rfl) (by decide) ?_
      refine pxV (v := (.bool true)) (fun _ _ hF => opPickT rfl (hF.ev 0 rfl) rfl) rfl (fun _ _ => rfl) (kM [false, true, true, true, true, true] rfl rfl) (by decide) ?_
      refine pxV (v := (.bool true)) (fun _ _ hF => opMove rfl (hF.ev 0 rfl)) rfl (fun _ _ => rfl) (kM [false, true, true, true, true, true] rfl rfl) (by decide) ?_
      refine pxU rfl (gOff 0 rfl rfl rfl (by decide)) (kA rfl) (by decide) ?_
      refine pxU rfl (gOff 0 rfl rfl rfl (by decide)) (kM [true, true, false, true, true, true] rfl rfl) (by decide) ?_
      refine pxU rfl (gOff 0 rfl rfl rfl (by decide)) (kA rfl) (by decide) ?_
      refine pxU rfl (gOff 0 rfl rfl rfl (by decide)) (kA rfl) (by decide) ?_
      refine pxU rfl (gOff 0 rfl rfl rfl (by decide)) (kA rfl) (by decide) ?_
      refine pxU rfl (gOff 0 rfl rfl rfl (by decide)) (kA rfl) (by decide) ?_
      refine pxU rfl (gOff 0 rfl rfl rfl (by decide)) (kA rfl) (by decide) ?_
      refine pxV (v := (.bool true)) (fun _ _ hF => opPickT rfl (hF.ev 0 rfl) rfl) rfl (fun _ _ => rfl) (kM [false, true, true, true, true] rfl rfl) (by decide) ?_
      refine pxEnd ?_
      refine qxThen ?_
      refine cxT 0 rfl rfl ?_
      refine cxSeq ?_
      refine cxReg ?_
      refine pxV (v := (.bool false)) (fun _ _ hF => opAssign rfl rfl) rfl (fun _ _ => rfl) (kM [false, false, false, false, false] rfl rfl) (by decide) ?_
      refine pxEnd ?_
      refine qxThen ?_
      refine cxRet ?_
      refine qxInR ?_
      refine qxThenR ?_
      refine qxThenR ?_
      refine qxInR ?_
      refine qxThenR ?_
      refine qxRet1 0 rfl rfl ?_
      exact ⟨_, _, rfl, ⟨rfl, false, rfl, fun h => by cases h⟩, hH⟩
    · refine pxV (v := (.int .i64 (((s + lenB x0) : Nat) : Int))) (fun _ _ hF => opMove rfl (hF.ev 1 rfl)) rfl (gOn 0 rfl rfl rfl (by decide)) (kA rfl) (by decide) ?_
      refine pxV (v := (.bool (decide (s + lenB x0 > 30000)))) (fun _ _ hF => opGtr rfl (hF.ev 0 rfl) rfl (dc (by omega))) rfl (gOn 1 rfl rfl rfl (by decide)) (kM [false, true, true, true, true, true, true] rfl rfl) (by decide) ?_
      refine pxV (v := (.bool (decide (s + lenB x0 > 30000)))) (fun _ _ hF => opPickF rfl (hF.ev 1 rfl) (hF.ev 0 rfl)) rfl (fun _ _ => rfl) (kM [false, false, true, true, true, true, true] rfl rfl) (by decide) ?_
      refine pxV (v := (.bool (decide (s + lenB x0 > 30000)))) (fun _ _ hF => opMove rfl (hF.ev 0 rfl)) rfl (fun _ _ => rfl) (kM [false, true, true, true, true, true] rfl rfl) (by decide) ?_
      refine pxSplitP 0 rfl (l1 := [(24, (.bool true)), (3, (.int .i64 (((s + lenB x0) : Nat) : Int))), (4, (.int .i64 (((i) : Nat) : Int))), (7, (.int .i64 (((i) : Nat) : Int))), (6, (.int .i64 (((raws.length) : Nat) : Int))), (0, (.slice (some ⟨b3, off4, none⟩) raws.length c))]) (l2 := [(24, (.bool false)), (3, (.int .i64 (((s + lenB x0) : Nat) : Int))), (4, (.int .i64 (((i) : Nat) : Int))), (7, (.int .i64 (((i) : Nat) : Int))), (6, (.int .i64 (((raws.length) : Nat) : Int))), (0, (.slice (some ⟨b3, off4, none⟩) raws.length c))]) rfl rfl (fun hg12 => ?_) (fun hg12 => ?_)
      · refine pxU rfl (gOff 0 rfl rfl rfl (by decide)) (kA rfl) (by decide) ?_
        refine pxU rfl (gOff 0 rfl rfl rfl (by decide)) (kM [true, true, false, true, true, true] rfl rfl) (by decide) ?_
        refine pxU rfl (gOff 0 rfl rfl rfl (by decide)) (kA rfl) (by decide) ?_
        refine pxU rfl (gOff 0 rfl rfl rfl (by decide)) (kA rfl) (by decide) ?_
        refine pxU rfl (gOff 0 rfl rfl rfl (by decide)) (kA rfl) (by decide) ?_
        refine pxU rfl (gOff 0 rfl rfl rfl (by decide)) (kA rfl) (by decide) ?_
        refine pxU rfl (gOff 0 rfl rfl rfl (by decide)) (kA rfl) (by decide) ?_
        refine pxV (v := (.bool true)) (fun _ _ hF => opPickT rfl (hF.ev 0 rfl) rfl) rfl (fun _ _ => rfl) (kM [false, true, true, true, true] rfl rfl) (by decide) ?_
        refine pxEnd ?_
        refine qxThen ?_
        refine cxT 0 rfl rfl ?_
        refine cxSeq ?_
        refine cxReg ?_
        refine pxV (v := (.bool false)) (fun _ _ hF => opAssign rfl rfl) rfl (fun _ _ => rfl) (kM [false, false, false, false, false] rfl rfl) (by decide) ?_
        refine pxEnd ?_
        refine qxThen ?_
        refine cxRet ?_
        refine qxInR ?_
        refine qxThenR ?_
        refine qxThenR ?_
        refine qxInR ?_
        refine qxThenR ?_
        refine qxRet1 0 rfl rfl ?_
        exact ⟨_, _, rfl, ⟨rfl, false, rfl, fun h => by cases h⟩, hH⟩
      · refine pxV (v := (.slice (some ⟨b3, off4, none⟩) raws.length c)) (fun _ _ hF => opMove rfl (hF.ev 5 rfl)) rfl (gOn 0 rfl rfl rfl (by decide)) (kA rfl) (by decide) ?_
        refine pxV (v := (.int .i64 (((i) : Nat) : Int))) (fun _ _ hF => opMove rfl (hF.ev 3 rfl)) rfl (gOn 1 rfl rfl rfl (by decide)) (kM [true, true, true, false, true, true, true] rfl rfl) (by decide) ?_
        have hi13 : i < raws.length := by omega
        have hj16 : i < raws.length := by first | exact hi13 | (simp only [List.length_drop, List.length_take]; omega) | omega
        obtain ⟨x14, hx15⟩ := get_at raws i hj16
        refine pxV (v := (.pointer (some ⟨b3, off4 + i * 5, none⟩))) (fun _ _ hF => opIndex (i := i) (e := 33) (sz := 5) rfl (by kernel_rfl) (by kernel_rfl) (hF.ev 1 rfl) (hF.ev 0 rfl) rfl hi13) rfl (gOn 2 rfl rfl rfl (by decide)) (kM [false, false, true, true, true, true, true] rfl rfl) (by decide) ?_
        refine pxV (v := (.pointer (some ⟨b3, off4 + i * 5 + 4, none⟩))) (fun _ _ hF => opField (off := 4) rfl (hF.ev 0 rfl) (by kernel_rfl)) rfl (gOn 1 rfl rfl rfl (by decide)) (kM [false, true, true, true, true, true] rfl rfl) (by decide) ?_
        refine pxS (v := (.slice x14.2.2.2.2.1 x14.2.2.2.2.2.1 x14.2.2.2.2.2.2)) (fun w => HoldsL cOp w b3 off4 raws) (hH.holdsL hL5 hb6 hR7) (fun _ _ hF hS => opLoadT (C := cSl) (y := x14.2.2.2.2) rfl (hF.ev 0 rfl) (by kernel_rfl) ((((hS i _ hx15).snd).snd).snd).snd rfl) rfl (gOn 1 rfl rfl rfl (by decide)) (kM [false, true, true, true, true, true] rfl rfl) (by decide) ?_
        refine pxV (v := (.int .i64 (((x14.2.2.2.2.2.1) : Nat) : Int))) (fun _ _ hF => opLen (e := 4) rfl (by kernel_rfl) (hF.ev 0 rfl)) rfl (gOn 1 rfl rfl rfl (by decide)) (kM [false, true, true, true, true, true] rfl rfl) (by decide) ?_
        refine pxV (v := (.bool (decide (x14.2.2.2.2.2.1 > 300)))) (fun _ _ hF => opGtr rfl (hF.ev 0 rfl) rfl (dc (by omega))) rfl (gOn 1 rfl rfl rfl (by decide)) (kM [false, true, true, true, true, true] rfl rfl) (by decide) ?_
        refine pxV (v := (.bool (decide (x14.2.2.2.2.2.1 > 300)))) (fun _ _ hF => opPickF rfl (hF.ev 1 rfl) (hF.ev 0 rfl)) rfl (fun _ _ => rfl) (kM [false, false, true, true, true, true] rfl rfl) (by decide) ?_
        refine pxEnd ?_
        refine qxThen ?_
        refine cxP 0 rfl rfl (fun hc17 => ?_) (fun hc17 => ?_)
        · refine cxSeq ?_
          refine cxReg ?_
          refine pxV (v := (.bool false)) (fun _ _ hF => opAssign rfl rfl) rfl (fun _ _ => rfl) (kM [false, false, false, false, false] rfl rfl) (by decide) ?_
          refine pxEnd ?_
          refine qxThen ?_
          refine cxRet ?_
          refine qxInR ?_
          refine qxThenR ?_
          refine qxThenR ?_
          refine qxInR ?_
          refine qxThenR ?_
          refine qxRet1 0 rfl rfl ?_
          exact ⟨_, _, rfl, ⟨rfl, false, rfl, fun h => by cases h⟩, hH⟩
        · refine cxSkip ?_
          refine qxInN ?_
          refine qxThen ?_
          refine cxReg ?_
          refine pxV (v := (.int .i64 (((i + 1) : Nat) : Int))) (fun _ _ hF => opAdd rfl (hF.ev 2 rfl) rfl (wI (by omega) (by omega) (by omega))) rfl (fun _ _ => rfl) (kM [false, true, false, true, true] rfl rfl) (by decide) ?_
          refine pxV (v := (.int .i64 (((i + 1) : Nat) : Int))) (fun _ _ hF => opMove rfl (hF.ev 0 rfl)) rfl (fun _ _ => rfl) (kM [false, true, true, true] rfl rfl) (by decide) ?_
          refine pxEnd ?_
          exact qxRound (i + 1, s + lenB x0) ⟨hH, (by omega), (by omega), (by omega), (by rw [hT, tot_take hx0])⟩ (by omega) (slots_at [0, 2, 1, 3] rfl)
  · refine cxExit ?_
    refine qxThenE ?_
    refine qxThenE ?_
    refine qxInE ?_
    refine qxThen ?_
    refine cxSeq ?_
    refine cxReg ?_
    refine pxV (v := (.bool true)) (fun _ _ hF => opAssign rfl rfl) rfl (fun _ _ => rfl) (kM [false, false, false, false, false] rfl rfl) (by decide) ?_
    refine pxEnd ?_
    refine qxThen ?_
    refine cxRet ?_
    refine qxRet1 0 rfl rfl ?_
    exact ⟨_, _, rfl, ⟨rfl, true, rfl, fun _ => ⟨by omega, by rw [List.take_of_length_le (by omega)] at hT; omega⟩⟩, hH⟩

theorem aw1 : ((Dk.new 3).writes 1 (List.replicate 64 0)).1 = 0 := by rfl
theorem aw2 : ((Dk.new 3).writes 1 (List.replicate 64 0)).2.uns.length = 1 := by rfl

set_option maxHeartbeats 8000000 in
theorem awake_c  : Pure Try.prog 7 #[] (fun _ => True) (.bool true) := by
  refine pure_of (fn := Try.f7) Try.func7 rfl Try.ntmps7 (Nat.le_of_ble_eq_true rfl) rfl ?_
  intro w0 hH hR
  refine cxSeq ?_
  refine cxReg ?_
  refine pxV (v := (.bool false)) (fun _ _ hF => opAssign rfl rfl) rfl (fun _ _ => rfl) (kA rfl) (by decide) ?_
  refine pxEnd ?_
  refine qxThen ?_
  refine cxSeq ?_
  refine cxReg ?_
  refine pxM hH (fun _ hF => Does.small (new_c 3 3 (by decide) (leb rfl)) (fun w => opCall rfl Try.func9 rfl rfl (Evs.cons (v := (.int .i64 3)) rfl Evs.nil) w)) trivial rfl (fun _ _ => rfl) (kM [false] rfl rfl) (by decide) ?_
  clear hH
  rintro _ E2 w ⟨g1, rfl, hD3⟩ hH
  replace hH : HH w0 [] [E2] w := hH
  refine pxV (v := (.pointer (some ⟨g1, 0, none⟩))) (fun _ _ hF => opAssign rfl (hF.ev 0 rfl)) rfl (fun _ _ => rfl) (kM [false] rfl rfl) (by decide) ?_
  refine pxEnd ?_
  refine qxThen ?_
  refine cxSeq ?_
  refine cxReg ?_
  refine pxV (v := (.pointer (some ⟨g1, 0, none⟩))) (fun _ _ hF => opMove rfl (hF.ev 0 rfl)) rfl (fun _ _ => rfl) (kA rfl) (by decide) ?_
  refine pxV (v := (.bool true)) (fun _ _ hF => opNeNil (e := 51) rfl (by kernel_rfl) (hF.ev 0 rfl) rfl rfl) rfl (fun _ _ => rfl) (kM [false, true] rfl rfl) (by decide) ?_
  refine pxV (v := (.bool true)) (fun _ _ hF => opMove rfl (hF.ev 0 rfl)) rfl (fun _ _ => rfl) (kM [false, true] rfl rfl) (by decide) ?_
  refine pxV (v := (.pointer (some ⟨g1, 0, none⟩))) (fun _ _ hF => opMove rfl (hF.ev 1 rfl)) rfl (gOn 0 rfl rfl rfl (by decide)) (kA rfl) (by decide) ?_
  refine pxE 0 hH rfl (fun _ hF => Does.small (sectors_c g1 (Dk.new 3) E2 hD3 ) (fun w => opCall rfl Try.func19 rfl rfl (Evs.cons (v := (.pointer (some ⟨g1, 0, none⟩))) (hF.ev 0 rfl) Evs.nil) w)) trivial rfl (gOn 1 rfl rfl rfl (by decide)) (kM [false, true, true] rfl rfl) (by decide) ?_
  clear hH
  rintro _ E4 w ⟨rfl, hD5⟩ hH
  replace hH : HH w0 [] [E4] w := hH
  refine pxV (v := (.bool true)) (fun _ _ hF => opEqI rfl (hF.ev 0 rfl) rfl (decide_eq_true (rfl))) rfl (gOn 1 rfl rfl rfl (by decide)) (kM [false, true, true] rfl rfl) (by decide) ?_
  refine pxV (v := (.bool true)) (fun _ _ hF => opPickT rfl (hF.ev 1 rfl) (hF.ev 0 rfl)) rfl (fun _ _ => rfl) (kM [false, false, true] rfl rfl) (by decide) ?_
  refine pxV (v := (.bool true)) (fun _ _ hF => opMove rfl (hF.ev 0 rfl)) rfl (fun _ _ => rfl) (kM [false, true] rfl rfl) (by decide) ?_
  refine pxV (v := (.pointer (some ⟨g1, 0, none⟩))) (fun _ _ hF => opMove rfl (hF.ev 1 rfl)) rfl (gOn 0 rfl rfl rfl (by decide)) (kA rfl) (by decide) ?_
  refine pxM hH (fun _ hF => smMake (e := 5) (n := 64) (sz := 1) (by_ := 1) (z := (.int .u8 0)) (cs := madeCells (cByte.enc 0) (64 * 1)) rfl (by kernel_rfl) (by kernel_rfl) rfl rfl rfl rfl (by omega) (by omega) rfl) trivial rfl (gOn 1 rfl rfl rfl (by decide)) (kA rfl) (by decide) ?_
  clear hH
  rintro _ _ w ⟨g6, rfl, rfl⟩ hH
  replace hH : HH w0 [] [E4, [bl g6 5 (madeCells (cByte.enc 0) (64 * 1))]] w := hH
  refine pxE 0 hH rfl (fun _ hF => Does.small (write_c g1 (Dk.new 3) E4 hD5 1 (List.replicate 64 0) (by decide) (by decide) (some ⟨g6, 0, none⟩) 64 (hH.off2 0 1 rfl rfl rfl) (leb rfl) (leb rfl) (leb rfl)) (fun w => opCall rfl Try.func13 rfl rfl (Evs.cons (v := (.pointer (some ⟨g1, 0, none⟩))) (hF.ev 1 rfl) (Evs.cons (v := (.int .i64 1)) rfl (Evs.cons (v := (.slice (some ⟨g6, 0, none⟩) 64 64)) (hF.ev 0 rfl) Evs.nil))) w)) ((Bk.make (C := cByte) 0 64 (ltb rfl) (by unfold maxLen; omega)).vu (hH.blk 1 rfl) rfl) rfl (gOn 2 rfl rfl rfl (by decide)) (kM [false, false, true, true] rfl rfl) (by decide) ?_
  clear hH
  rintro _ E7 w ⟨rfl, hD8⟩ hH
  replace hH : HH w0 [] [E7, [bl g6 5 (madeCells (cByte.enc 0) (64 * 1))]] w := hH
  refine pxV (v := (.bool true)) (fun _ _ hF => opEqI rfl (hF.ev 0 rfl) rfl (decide_eq_true (by rw [aw1]; rfl))) rfl (gOn 1 rfl rfl rfl (by decide)) (kM [false, true, true] rfl rfl) (by decide) ?_
  refine pxV (v := (.bool true)) (fun _ _ hF => opPickT rfl (hF.ev 1 rfl) (hF.ev 0 rfl)) rfl (fun _ _ => rfl) (kM [false, false, true] rfl rfl) (by decide) ?_
  refine pxV (v := (.bool true)) (fun _ _ hF => opMove rfl (hF.ev 0 rfl)) rfl (fun _ _ => rfl) (kM [false, true] rfl rfl) (by decide) ?_
  refine pxV (v := (.pointer (some ⟨g1, 0, none⟩))) (fun _ _ hF => opMove rfl (hF.ev 1 rfl)) rfl (gOn 0 rfl rfl rfl (by decide)) (kM [true, false] rfl rfl) (by decide) ?_
  refine pxE 0 hH rfl (fun _ hF => Does.small (unsynced_c g1 (((Dk.new 3).writes 1 (List.replicate 64 0)).2) E7 hD8 ) (fun w => opCall rfl Try.func18 rfl rfl (Evs.cons (v := (.pointer (some ⟨g1, 0, none⟩))) (hF.ev 0 rfl) Evs.nil) w)) trivial rfl (gOn 1 rfl rfl rfl (by decide)) (kM [false, true] rfl rfl) (by decide) ?_
  clear hH
  rintro _ E9 w ⟨rfl, hD10⟩ hH
  replace hH : HH w0 [] [E9, [bl g6 5 (madeCells (cByte.enc 0) (64 * 1))]] w := hH
  refine pxV (v := (.bool true)) (fun _ _ hF => opEqI rfl (hF.ev 0 rfl) rfl (decide_eq_true (by rw [aw2]; rfl))) rfl (gOn 1 rfl rfl rfl (by decide)) (kM [false, true] rfl rfl) (by decide) ?_
  refine pxV (v := (.bool true)) (fun _ _ hF => opPickT rfl (hF.ev 1 rfl) (hF.ev 0 rfl)) rfl (fun _ _ => rfl) (kM [false, false] rfl rfl) (by decide) ?_
  refine pxV (v := (.bool true)) (fun _ _ hF => opAssign rfl (hF.ev 0 rfl)) rfl (fun _ _ => rfl) (kM [false] rfl rfl) (by decide) ?_
  refine pxEnd ?_
  refine qxThen ?_
  refine cxRet ?_
  refine qxRet1 0 rfl rfl ?_
  exact ⟨rfl, HH.toBelow hH⟩
end Go.Proofs.Ytnalkphocllhbaa
