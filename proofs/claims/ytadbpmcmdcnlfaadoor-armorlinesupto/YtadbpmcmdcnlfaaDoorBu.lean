/- The methods of strings.Builder: what each does to a builder. -/
import Derived.Test.YtadbpmcmdcnlfaaDoorBuO
import Derived.Test.YtadbpmcmdcnlfaaDoorTy
namespace Go.Proofs.YtadbpmcmdcnlfaaDoor
open Go Go.RowKit
set_option maxRecDepth 100000

set_option maxHeartbeats 8000000 in
theorem bu_check0 (g : Nat) (s : Value) : Does Tryd.prog 36 #[(.pointer (some ⟨g, 0, none⟩))] [bl g 43 #[.pointer none, s]] (fun _ => True) (fun v E' => v = .tuple #[] ∧ E' = [bl g 43 #[.pointer (some ⟨g, 0, none⟩), s]]) := by
  refine does_of (fn := Tryd.f36) Tryd.func36 rfl Tryd.ntmps36 (Nat.le_of_ble_eq_true rfl) rfl ?_
  intro w0 hH hR
  refine cxSeq ?_
  refine cxReg ?_
  refine pxV (v := (.pointer (some ⟨g, 0, none⟩))) (fun _ _ hF => opMove rfl (hF.ev 0 rfl)) rfl (fun _ _ => rfl) (kA rfl) (by decide) ?_
  refine pxV (v := (.pointer (some ⟨g, 0, none⟩))) (fun _ _ hF => opNilCheck rfl (hF.ev 0 rfl)) rfl (fun _ _ => rfl) (kM [false, true] rfl rfl) (by decide) ?_
  refine pxV (v := (.pointer (some ⟨g, 0, none⟩))) (fun _ _ hF => opField (off := 0) rfl (hF.ev 0 rfl) (by kernel_rfl)) rfl (fun _ _ => rfl) (kM [false, true] rfl rfl) (by decide) ?_
  refine pxS (v := (.pointer none)) (fun w => w.heap[g]? = some (.cells #[(.pointer none), s] 43 (0, 0))) (hH.blk 0 rfl) (fun _ _ hF hS => opLoadK hS rfl (hF.ev 0 rfl) (by kernel_rfl) rfl) rfl (fun _ _ => rfl) (kM [false, true] rfl rfl) (by decide) ?_
  refine pxV (v := (.bool true)) (fun _ _ hF => opEqNil (e := 43) rfl (by kernel_rfl) (hF.ev 0 rfl) rfl rfl) rfl (fun _ _ => rfl) (kM [false, true] rfl rfl) (by decide) ?_
  refine pxEnd ?_
  refine qxThen ?_
  refine cxT 0 rfl rfl ?_
  refine cxReg ?_
  refine pxV (v := (.pointer (some ⟨g, 0, none⟩))) (fun _ _ hF => opMove rfl (hF.ev 1 rfl)) rfl (fun _ _ => rfl) (kM [false, true] rfl rfl) (by decide) ?_
  refine pxV (v := (.pointer (some ⟨g, 0, none⟩))) (fun _ _ hF => opMove rfl (hF.ev 1 rfl)) rfl (fun _ _ => rfl) (kM [true, false] rfl rfl) (by decide) ?_
  refine pxS (v := (.pointer (some ⟨g, 0, none⟩))) (fun w => w.heap[g]? = some (.cells #[(.pointer none), s] 43 (0, 0))) (hH.blk 0 rfl) (fun _ _ hF hS => opToUnsafe (e := 43) hS rfl (hF.ev 0 rfl) (by kernel_rfl) (by kernel_rfl) (by kernel_rfl) (ltb rfl)) rfl (fun _ _ => rfl) (kM [false, true] rfl rfl) (by decide) ?_
  refine pxV (v := (.pointer (some ⟨g, 0, none⟩))) (fun _ _ hF => opExtern (en := Extern.AbiNoEscape.same) rfl Tryd.func46 rfl (by kernel_rfl) (by kernel_rfl) (by kernel_rfl) (Evs.cons (v := (.pointer (some ⟨g, 0, none⟩))) (hF.ev 0 rfl) Evs.nil) (Lib.run_noEscape _ _)) rfl (fun _ _ => rfl) (kM [false, true] rfl rfl) (by decide) ?_
  refine pxS (v := (.pointer (some ⟨g, 0, none⟩))) (fun w => w.heap[g]? = some (.cells #[(.pointer none), s] 43 (0, 0))) (hH.blk 0 rfl) (fun _ _ hF hS => opFromUnsafe (k := 2) (e := 43) hS rfl (hF.ev 0 rfl) (by kernel_rfl) (by kernel_rfl) (by kernel_rfl) rfl (by kernel_rfl)) rfl (fun _ _ => rfl) (kM [false, true] rfl rfl) (by decide) ?_
  refine pxV (v := (.pointer (some ⟨g, 0, none⟩))) (fun _ _ hF => opNilCheck rfl (hF.ev 1 rfl)) rfl (fun _ _ => rfl) (kM [true, false] rfl rfl) (by decide) ?_
  refine pxV (v := (.pointer (some ⟨g, 0, none⟩))) (fun _ _ hF => opField (off := 0) rfl (hF.ev 0 rfl) (by kernel_rfl)) rfl (fun _ _ => rfl) (kM [false, true] rfl rfl) (by decide) ?_
  refine pxE0 0 hH rfl (fun _ hF => smStore (v := (.pointer (some ⟨g, 0, none⟩))) rfl (hF.ev 0 rfl) (hF.ev 1 rfl) (by kernel_rfl) (ltb rfl) rfl rfl) trivial rfl (fun _ _ => rfl) ?_
  clear hH
  rintro _ _ w rfl hH
  replace hH : HH w0 (bks ([bl g 43 #[.pointer none, s]])) [[bl g 43 #[(.pointer (some ⟨g, 0, none⟩)), s]]] w := hH
  refine pxEnd ?_
  refine qxEnd0 rfl ?_
  exact ⟨_, _, rfl, ⟨rfl, rfl⟩, hH.out1 [true] rfl⟩

set_option maxHeartbeats 8000000 in
theorem bu_check1 (g : Nat) (s : Value) : Does Tryd.prog 36 #[(.pointer (some ⟨g, 0, none⟩))] [bl g 43 #[.pointer (some ⟨g, 0, none⟩), s]] (fun _ => True) (fun v E' => v = .tuple #[] ∧ E' = [bl g 43 #[.pointer (some ⟨g, 0, none⟩), s]]) := by
  refine does_of (fn := Tryd.f36) Tryd.func36 rfl Tryd.ntmps36 (Nat.le_of_ble_eq_true rfl) rfl ?_
  intro w0 hH hR
  refine cxSeq ?_
  refine cxReg ?_
  refine pxV (v := (.pointer (some ⟨g, 0, none⟩))) (fun _ _ hF => opMove rfl (hF.ev 0 rfl)) rfl (fun _ _ => rfl) (kA rfl) (by decide) ?_
  refine pxV (v := (.pointer (some ⟨g, 0, none⟩))) (fun _ _ hF => opNilCheck rfl (hF.ev 0 rfl)) rfl (fun _ _ => rfl) (kM [false, true] rfl rfl) (by decide) ?_
  refine pxV (v := (.pointer (some ⟨g, 0, none⟩))) (fun _ _ hF => opField (off := 0) rfl (hF.ev 0 rfl) (by kernel_rfl)) rfl (fun _ _ => rfl) (kM [false, true] rfl rfl) (by decide) ?_
  refine pxS (v := (.pointer (some ⟨g, 0, none⟩))) (fun w => w.heap[g]? = some (.cells #[(.pointer (some ⟨g, 0, none⟩)), s] 43 (0, 0))) (hH.blk 0 rfl) (fun _ _ hF hS => opLoadK hS rfl (hF.ev 0 rfl) (by kernel_rfl) rfl) rfl (fun _ _ => rfl) (kM [false, true] rfl rfl) (by decide) ?_
  refine pxV (v := (.bool false)) (fun _ _ hF => opEqNil (e := 43) rfl (by kernel_rfl) (hF.ev 0 rfl) rfl rfl) rfl (fun _ _ => rfl) (kM [false, true] rfl rfl) (by decide) ?_
  refine pxEnd ?_
  refine qxThen ?_
  refine cxF 0 rfl rfl ?_
  refine cxSeq ?_
  refine cxReg ?_
  refine pxV (v := (.pointer (some ⟨g, 0, none⟩))) (fun _ _ hF => opMove rfl (hF.ev 1 rfl)) rfl (fun _ _ => rfl) (kM [false, true] rfl rfl) (by decide) ?_
  refine pxV (v := (.pointer (some ⟨g, 0, none⟩))) (fun _ _ hF => opNilCheck rfl (hF.ev 0 rfl)) rfl (fun _ _ => rfl) (kM [false, true] rfl rfl) (by decide) ?_
  refine pxV (v := (.pointer (some ⟨g, 0, none⟩))) (fun _ _ hF => opField (off := 0) rfl (hF.ev 0 rfl) (by kernel_rfl)) rfl (fun _ _ => rfl) (kM [false, true] rfl rfl) (by decide) ?_
  refine pxS (v := (.pointer (some ⟨g, 0, none⟩))) (fun w => w.heap[g]? = some (.cells #[(.pointer (some ⟨g, 0, none⟩)), s] 43 (0, 0))) (hH.blk 0 rfl) (fun _ _ hF hS => opLoadK hS rfl (hF.ev 0 rfl) (by kernel_rfl) rfl) rfl (fun _ _ => rfl) (kM [false, true] rfl rfl) (by decide) ?_
  refine pxV (v := (.pointer (some ⟨g, 0, none⟩))) (fun _ _ hF => opMove rfl (hF.ev 1 rfl)) rfl (fun _ _ => rfl) (kM [true, false] rfl rfl) (by decide) ?_
  refine pxV (v := (.bool false)) (fun _ _ hF => opSameP (e := 43) rfl (by kernel_rfl) (by kernel_rfl) (hF.ev 1 rfl) (hF.ev 0 rfl)) rfl (fun _ _ => rfl) (kM [false, false] rfl rfl) (by decide) ?_
  refine pxEnd ?_
  refine qxThen ?_
  refine cxF 0 rfl rfl ?_
  refine cxSkip ?_
  refine qxEnd0 rfl ?_
  exact ⟨_, _, rfl, ⟨rfl, rfl⟩, hH.out1 [true] rfl⟩

theorem bu_check (g : Nat) (p : Option Addr) (s : Value) (hp : p = none ∨ p = some ⟨g, 0, none⟩) : Does Tryd.prog 36 #[.pointer (some ⟨g, 0, none⟩)] [bl g 43 #[.pointer p, s]] (fun _ => True) (fun v E' => v = .tuple #[] ∧ E' = [bl g 43 #[.pointer (some ⟨g, 0, none⟩), s]]) := by
  rcases hp with rfl | rfl
  · exact bu_check0 g s
  · exact bu_check1 g s

set_option maxHeartbeats 8000000 in
theorem bu_byte (g : Nat) (l : List UInt8) (E : Hl) (hB : BuAt 43 5 g l E) (x : UInt8) (hn : l.length + 1 ≤ 140737488355328) : Does Tryd.prog 20 #[(.pointer (some ⟨g, 0, none⟩)), (.int .u8 (((x.toNat) : Nat) : Int))] E (fun _ => True) (fun v E' => v = .nilIface ∧ BuAt 43 5 g (l ++ [x]) E') := by
  refine does_of (fn := Tryd.f20) Tryd.func20 rfl Tryd.ntmps20 (Nat.le_of_ble_eq_true rfl) rfl ?_
  intro w0 hH hR
  obtain ⟨p, A, c, Fb, hp, hAc, hEE, hOb⟩ := hB
  replace hH : HH w0 (bks E) [[bl g 43 #[(.pointer p), (.slice A l.length c)]], Fb] w0 := hH.cast (by rw [hEE]; simp)
  refine cxSeq ?_
  refine cxReg ?_
  refine pxV (v := .nilIface) (fun _ _ hF => opAssign rfl rfl) rfl (fun _ _ => rfl) (kA rfl) (by decide) ?_
  refine pxEnd ?_
  refine qxThen ?_
  refine cxSeq ?_
  refine cxReg ?_
  refine pxV (v := (.pointer (some ⟨g, 0, none⟩))) (fun _ _ hF => opMove rfl (hF.ev 1 rfl)) rfl (fun _ _ => rfl) (kM [false, true, true] rfl rfl) (by decide) ?_
  refine pxE 0 hH rfl (fun _ hF => Does.small (bu_check g p (.slice A l.length c) hp) (fun w => opCall rfl Tryd.func36 rfl rfl (Evs.cons (v := (.pointer (some ⟨g, 0, none⟩))) (hF.ev 0 rfl) Evs.nil) w)) trivial rfl (fun _ _ => rfl) (kM [false, true, true] rfl rfl) (by decide) ?_
  clear hH
  rintro _ _ w ⟨rfl, rfl⟩ hH
  replace hH : HH w0 (bks E) [[bl g 43 #[(.pointer (some ⟨g, 0, none⟩)), (.slice A l.length c)]], Fb] w := hH
  refine pxEnd ?_
  refine qxThen ?_
  refine cxSeq ?_
  refine cxReg ?_
  refine pxV (v := (.pointer (some ⟨g, 0, none⟩))) (fun _ _ hF => opMove rfl (hF.ev 1 rfl)) rfl (fun _ _ => rfl) (kM [false, true, true] rfl rfl) (by decide) ?_
  refine pxV (v := (.pointer (some ⟨g, 0, none⟩))) (fun _ _ hF => opMove rfl (hF.ev 1 rfl)) rfl (fun _ _ => rfl) (kM [true, false, true] rfl rfl) (by decide) ?_
  refine pxV (v := (.pointer (some ⟨g, 0, none⟩))) (fun _ _ hF => opNilCheck rfl (hF.ev 0 rfl)) rfl (fun _ _ => rfl) (kM [false, true, true] rfl rfl) (by decide) ?_
  refine pxV (v := (.pointer (some ⟨g, 1, none⟩))) (fun _ _ hF => opField (off := 1) rfl (hF.ev 0 rfl) (by kernel_rfl)) rfl (fun _ _ => rfl) (kM [false, true, true] rfl rfl) (by decide) ?_
  refine pxS (v := (.slice A l.length c)) (fun w => w.heap[g]? = some (.cells #[(.pointer (some ⟨g, 0, none⟩)), (.slice A l.length c)] 43 (0, 0))) (hH.blk 0 rfl) (fun _ _ hF hS => opLoadK hS rfl (hF.ev 0 rfl) (by kernel_rfl) rfl) rfl (fun _ _ => rfl) (kM [false, true, true] rfl rfl) (by decide) ?_
  refine pxV (v := (.int .u8 (((x.toNat) : Nat) : Int))) (fun _ _ hF => opMove rfl (hF.ev 2 rfl)) rfl (fun _ _ => rfl) (kM [true, true, false] rfl rfl) (by decide) ?_
  refine pxM hH (fun _ hF => smLit1 (e := 5) (sz := 1) (z := (.int .u8 0)) (by_ := 1) (cs := cByte.enc x) rfl (by kernel_rfl) (by kernel_rfl) (hF.ev 0 rfl) (cByte.len x) (ltb rfl) (leb rfl) rfl) trivial rfl (fun _ _ => rfl) (kM [false, true, true] rfl rfl) (by decide) ?_
  clear hH
  rintro _ _ w ⟨g1, rfl, rfl⟩ hH
  replace hH : HH w0 (bks E) [[bl g 43 #[(.pointer (some ⟨g, 0, none⟩)), (.slice A l.length c)]], Fb, [bl g1 5 (cByte.enc x)]] w := hH
  refine pxE 1 hH rfl (fun _ hF => smAppT (C := cByte) (l := l) (m := [x]) (e := 5) (z := (.int .u8 0)) (by_ := 1) rfl (by kernel_rfl) (by kernel_rfl) rfl (ltb rfl) (hF.ev 1 rfl) hOb (hF.ev 0 rfl) rfl (fun h => by cases h) (by unfold maxLen; omega) (by omega)) ((Bk.lit1 (C := cByte) x).vu (n := 1) (hH.blk 2 rfl) rfl) rfl (fun _ _ => rfl) (kM [false, false, true] rfl rfl) (by decide) ?_
  clear hH
  rintro v4 E5 w ⟨hO6, _⟩ hH
  replace hH : HH w0 (bks E) [[bl g 43 #[(.pointer (some ⟨g, 0, none⟩)), (.slice A l.length c)]], E5, [bl g1 5 (cByte.enc x)]] w := hH
  replace hO6 : OwnT cByte 5 v4 (l ++ [x]) E5 := hO6
  obtain ⟨A2, c3, rfl⟩ := hO6.slice
  refine pxV (v := (.pointer (some ⟨g, 0, none⟩))) (fun _ _ hF => opNilCheck rfl (hF.ev 1 rfl)) rfl (fun _ _ => rfl) (kM [true, false] rfl rfl) (by decide) ?_
  refine pxV (v := (.pointer (some ⟨g, 1, none⟩))) (fun _ _ hF => opField (off := 1) rfl (hF.ev 0 rfl) (by kernel_rfl)) rfl (fun _ _ => rfl) (kM [false, true] rfl rfl) (by decide) ?_
  refine pxE0 0 hH rfl (fun _ hF => smStore (v := (.slice A2 ((l ++ [x]).length) c3)) rfl (hF.ev 0 rfl) (hF.ev 1 rfl) (by kernel_rfl) (ltb rfl) rfl rfl) trivial rfl (fun _ _ => rfl) ?_
  clear hH
  rintro _ _ w rfl hH
  replace hH : HH w0 (bks E) [[bl g 43 #[(.pointer (some ⟨g, 0, none⟩)), (.slice A2 ((l ++ [x]).length) c3)]], E5, [bl g1 5 (cByte.enc x)]] w := hH
  refine pxEnd ?_
  refine qxThen ?_
  refine cxSeq ?_
  refine cxReg ?_
  refine pxV (v := .nilIface) (fun _ _ hF => opAssign rfl rfl) rfl (fun _ _ => rfl) (kM [false, false] rfl rfl) (by decide) ?_
  refine pxEnd ?_
  refine qxThen ?_
  refine cxRet ?_
  refine qxRet1 0 rfl rfl ?_
  replace hH : HH w0 (bks E) [[bl g 43 #[(.pointer (some ⟨g, 0, none⟩)), (.slice A2 ((l ++ [x]).length) c3)]], E5] w := HH.sel hH [0, 1] rfl (by decide)
  exact ⟨_, _, rfl, ⟨rfl, BuAt.mk (.inr rfl) rfl hO6 (.inl (by simp))⟩, hH.out [true, true]⟩

set_option maxHeartbeats 8000000 in
theorem bu_str (g : Nat) (l : List UInt8) (E : Hl) (hB : BuAt 43 5 g l E) (m : List UInt8) (hn : l.length + m.length ≤ 140737488355328) : Does Tryd.prog 19 #[(.pointer (some ⟨g, 0, none⟩)), (.string (strL m))] E (fun _ => True) (fun v E' => v = .tuple #[.int .i64 (m.length : Int), .nilIface] ∧ BuAt 43 5 g (l ++ m) E') := by
  refine does_of (fn := Tryd.f19) Tryd.func19 rfl Tryd.ntmps19 (Nat.le_of_ble_eq_true rfl) rfl ?_
  intro w0 hH hR
  obtain ⟨p, A, c, Fb, hp, hAc, hEE, hOb⟩ := hB
  replace hH : HH w0 (bks E) [[bl g 43 #[(.pointer p), (.slice A l.length c)]], Fb] w0 := hH.cast (by rw [hEE]; simp)
  refine cxSeq ?_
  refine cxReg ?_
  refine pxV (v := (.int .i64 0)) (fun _ _ hF => opAssign rfl rfl) rfl (fun _ _ => rfl) (kA rfl) (by decide) ?_
  refine pxV (v := .nilIface) (fun _ _ hF => opAssign rfl rfl) rfl (fun _ _ => rfl) (kM [false, true, true] rfl rfl) (by decide) ?_
  refine pxEnd ?_
  refine qxThen ?_
  refine cxSeq ?_
  refine cxReg ?_
  refine pxV (v := (.pointer (some ⟨g, 0, none⟩))) (fun _ _ hF => opMove rfl (hF.ev 1 rfl)) rfl (fun _ _ => rfl) (kM [false, true, true] rfl rfl) (by decide) ?_
  refine pxE 0 hH rfl (fun _ hF => Does.small (bu_check g p (.slice A l.length c) hp) (fun w => opCall rfl Tryd.func36 rfl rfl (Evs.cons (v := (.pointer (some ⟨g, 0, none⟩))) (hF.ev 0 rfl) Evs.nil) w)) trivial rfl (fun _ _ => rfl) (kM [false, true, true] rfl rfl) (by decide) ?_
  clear hH
  rintro _ _ w ⟨rfl, rfl⟩ hH
  replace hH : HH w0 (bks E) [[bl g 43 #[(.pointer (some ⟨g, 0, none⟩)), (.slice A l.length c)]], Fb] w := hH
  refine pxEnd ?_
  refine qxThen ?_
  refine cxSeq ?_
  refine cxReg ?_
  refine pxV (v := (.pointer (some ⟨g, 0, none⟩))) (fun _ _ hF => opMove rfl (hF.ev 1 rfl)) rfl (fun _ _ => rfl) (kM [false, true, true] rfl rfl) (by decide) ?_
  refine pxV (v := (.pointer (some ⟨g, 0, none⟩))) (fun _ _ hF => opMove rfl (hF.ev 1 rfl)) rfl (fun _ _ => rfl) (kM [true, false, true] rfl rfl) (by decide) ?_
  refine pxV (v := (.pointer (some ⟨g, 0, none⟩))) (fun _ _ hF => opNilCheck rfl (hF.ev 0 rfl)) rfl (fun _ _ => rfl) (kM [false, true, true] rfl rfl) (by decide) ?_
  refine pxV (v := (.pointer (some ⟨g, 1, none⟩))) (fun _ _ hF => opField (off := 1) rfl (hF.ev 0 rfl) (by kernel_rfl)) rfl (fun _ _ => rfl) (kM [false, true, true] rfl rfl) (by decide) ?_
  refine pxS (v := (.slice A l.length c)) (fun w => w.heap[g]? = some (.cells #[(.pointer (some ⟨g, 0, none⟩)), (.slice A l.length c)] 43 (0, 0))) (hH.blk 0 rfl) (fun _ _ hF hS => opLoadK hS rfl (hF.ev 0 rfl) (by kernel_rfl) rfl) rfl (fun _ _ => rfl) (kM [false, true, true] rfl rfl) (by decide) ?_
  refine pxV (v := (.string (strL m))) (fun _ _ hF => opMove rfl (hF.ev 2 rfl)) rfl (fun _ _ => rfl) (kA rfl) (by decide) ?_
  refine pxE 1 hH rfl (fun _ hF => smAppS (l := l) (m := m) (e := 5) rfl (by kernel_rfl) (by kernel_rfl) (by kernel_rfl) (hF.ev 1 rfl) hOb (hF.ev 0 rfl) (by omega)) trivial rfl (fun _ _ => rfl) (kM [false, false, true, true] rfl rfl) (by decide) ?_
  clear hH
  rintro v3 E4 w ⟨hO5, hV6⟩ hH
  replace hH : HH w0 (bks E) [[bl g 43 #[(.pointer (some ⟨g, 0, none⟩)), (.slice A l.length c)]], E4] w := hH
  replace hO5 : OwnT cByte 5 v3 (l ++ m) E4 := hO5
  obtain ⟨A1, c2, rfl⟩ := hO5.slice
  refine pxV (v := (.pointer (some ⟨g, 0, none⟩))) (fun _ _ hF => opNilCheck rfl (hF.ev 1 rfl)) rfl (fun _ _ => rfl) (kM [true, false, true] rfl rfl) (by decide) ?_
  refine pxV (v := (.pointer (some ⟨g, 1, none⟩))) (fun _ _ hF => opField (off := 1) rfl (hF.ev 0 rfl) (by kernel_rfl)) rfl (fun _ _ => rfl) (kM [false, true, true] rfl rfl) (by decide) ?_
  refine pxE0 0 hH rfl (fun _ hF => smStore (v := (.slice A1 ((l ++ m).length) c2)) rfl (hF.ev 0 rfl) (hF.ev 1 rfl) (by kernel_rfl) (ltb rfl) rfl rfl) trivial rfl (fun _ _ => rfl) ?_
  clear hH
  rintro _ _ w rfl hH
  replace hH : HH w0 (bks E) [[bl g 43 #[(.pointer (some ⟨g, 0, none⟩)), (.slice A1 ((l ++ m).length) c2)]], E4] w := hH
  refine pxEnd ?_
  refine qxThen ?_
  refine cxSeq ?_
  refine cxReg ?_
  refine pxV (v := (.string (strL m))) (fun _ _ hF => opMove rfl (hF.ev 2 rfl)) rfl (fun _ _ => rfl) (kM [false, false, false] rfl rfl) (by decide) ?_
  refine pxV (v := (.int .i64 (((m.length) : Nat) : Int))) (fun _ _ hF => opLenL (l := m) rfl (by kernel_rfl) (hF.ev 0 rfl)) rfl (fun _ _ => rfl) (kM [false] rfl rfl) (by decide) ?_
  refine pxV (v := (.int .i64 (((m.length) : Nat) : Int))) (fun _ _ hF => opAssign rfl (hF.ev 0 rfl)) rfl (fun _ _ => rfl) (kM [false] rfl rfl) (by decide) ?_
  refine pxV (v := .nilIface) (fun _ _ hF => opAssign rfl rfl) rfl (fun _ _ => rfl) (kA rfl) (by decide) ?_
  refine pxEnd ?_
  refine qxThen ?_
  refine cxRet ?_
  refine qxRet2 1 0 rfl rfl rfl ?_
  have hcc : 0 < (l ++ m).length ∨ A1 = none ∨ 0 < c2 := by
    rcases hV6 with h | h
    · injection h with h1 _ h3; rw [h1, h3]; exact .inr hAc
    · exact .inl h
  exact ⟨_, _, rfl, ⟨rfl, BuAt.mk (.inr rfl) rfl hO5 hcc⟩, hH.out [true, true]⟩

set_option maxHeartbeats 8000000 in
theorem bu_len (g : Nat) (l : List UInt8) (E : Hl) (hB : BuAt 43 5 g l E) : Does Tryd.prog 39 #[(.pointer (some ⟨g, 0, none⟩))] E (fun _ => True) (fun v E' => v = .int .i64 (l.length : Int) ∧ BuAt 43 5 g l E') := by
  refine does_of (fn := Tryd.f39) Tryd.func39 rfl Tryd.ntmps39 (Nat.le_of_ble_eq_true rfl) rfl ?_
  intro w0 hH hR
  obtain ⟨p, A, c, Fb, hp, hAc, hEE, hOb⟩ := hB
  replace hH : HH w0 (bks E) [[bl g 43 #[(.pointer p), (.slice A l.length c)]], Fb] w0 := hH.cast (by rw [hEE]; simp)
  refine cxSeq ?_
  refine cxReg ?_
  refine pxV (v := (.int .i64 0)) (fun _ _ hF => opAssign rfl rfl) rfl (fun _ _ => rfl) (kA rfl) (by decide) ?_
  refine pxEnd ?_
  refine qxThen ?_
  refine cxSeq ?_
  refine cxReg ?_
  refine pxV (v := (.pointer (some ⟨g, 0, none⟩))) (fun _ _ hF => opMove rfl (hF.ev 1 rfl)) rfl (fun _ _ => rfl) (kM [false, false] rfl rfl) (by decide) ?_
  refine pxV (v := (.pointer (some ⟨g, 0, none⟩))) (fun _ _ hF => opNilCheck rfl (hF.ev 0 rfl)) rfl (fun _ _ => rfl) (kM [false] rfl rfl) (by decide) ?_
  refine pxV (v := (.pointer (some ⟨g, 1, none⟩))) (fun _ _ hF => opField (off := 1) rfl (hF.ev 0 rfl) (by kernel_rfl)) rfl (fun _ _ => rfl) (kM [false] rfl rfl) (by decide) ?_
  refine pxS (v := (.slice A l.length c)) (fun w => w.heap[g]? = some (.cells #[(.pointer p), (.slice A l.length c)] 43 (0, 0))) (hH.blk 0 rfl) (fun _ _ hF hS => opLoadK hS rfl (hF.ev 0 rfl) (by kernel_rfl) rfl) rfl (fun _ _ => rfl) (kM [false] rfl rfl) (by decide) ?_
  refine pxV (v := (.int .i64 (((l.length) : Nat) : Int))) (fun _ _ hF => opLen (e := 5) rfl (by kernel_rfl) (hF.ev 0 rfl)) rfl (fun _ _ => rfl) (kM [false] rfl rfl) (by decide) ?_
  refine pxV (v := (.int .i64 (((l.length) : Nat) : Int))) (fun _ _ hF => opAssign rfl (hF.ev 0 rfl)) rfl (fun _ _ => rfl) (kM [false] rfl rfl) (by decide) ?_
  refine pxEnd ?_
  refine qxThen ?_
  refine cxRet ?_
  refine qxRet1 0 rfl rfl ?_
  exact ⟨_, _, rfl, ⟨rfl, BuAt.mk hp rfl hOb (.inr hAc)⟩, hH.out [true, true]⟩

set_option maxHeartbeats 8000000 in
theorem bu_string0 (g : Nat) (p : Option Addr) : Does Tryd.prog 24 #[(.pointer (some ⟨g, 0, none⟩))] [bl g 43 #[.pointer p, .slice none 0 0]] (fun _ => True) (fun v _ => v = .string (strL [])) := by
  refine does_of (fn := Tryd.f24) Tryd.func24 rfl Tryd.ntmps24 (Nat.le_of_ble_eq_true rfl) rfl ?_
  intro w0 hH hR
  refine cxSeq ?_
  refine cxReg ?_
  refine pxV (v := (.string (strL ([])))) (fun _ _ hF => opAssign rfl rfl) rfl (fun _ _ => rfl) (kA rfl) (by decide) ?_
  refine pxEnd ?_
  refine qxThen ?_
  refine cxSeq ?_
  refine cxRegX mixedOrders (by kernel_rfl) ?_
  replace hH := hH.drew
  refine rxV 0 rfl (by kernel_rfl) rfl (fun _ _ => rfl) (fun _ _ hF => opMove rfl (hF.ev 1 rfl)) (kA rfl) (by decide) (v := (.pointer (some ⟨g, 0, none⟩))) ?_
  refine rxV 1 rfl (by kernel_rfl) rfl (fun _ _ => rfl) (fun _ _ hF => opNilCheck rfl (hF.ev 0 rfl)) (kM [false, true, true] rfl rfl) (by decide) (v := (.pointer (some ⟨g, 0, none⟩))) ?_
  refine rxV 2 rfl (by kernel_rfl) rfl (fun _ _ => rfl) (fun _ _ hF => opField (off := 1) rfl (hF.ev 0 rfl) (by kernel_rfl)) (kM [false, true, true] rfl rfl) (by decide) (v := (.pointer (some ⟨g, 1, none⟩))) ?_
  refine rxS (fun w => w.heap[g]? = some (.cells #[(.pointer p), (.slice none 0 0)] 43 (0, 0))) 3 rfl (by kernel_rfl) rfl (fun _ _ => rfl) (hH.blk 0 rfl) (fun _ _ hF hS => opLoadK hS rfl (hF.ev 0 rfl) (by kernel_rfl) rfl) (kM [false, true, true] rfl rfl) (by decide) (v := (.slice none 0 0)) ?_
  refine rxV 4 rfl (by kernel_rfl) rfl (fun _ _ => rfl) (fun _ _ hF => opSliceDataN rfl (hF.ev 0 rfl)) (kM [false, true, true] rfl rfl) (by decide) (v := (.pointer none)) ?_
  refine rxV 5 rfl (by kernel_rfl) rfl (fun _ _ => rfl) (fun _ _ hF => opMove rfl (hF.ev 2 rfl)) (kM [true, true, false] rfl rfl) (by decide) (v := (.pointer (some ⟨g, 0, none⟩))) ?_
  refine rxV 6 rfl (by kernel_rfl) rfl (fun _ _ => rfl) (fun _ _ hF => opNilCheck rfl (hF.ev 0 rfl)) (kM [false, true, true] rfl rfl) (by decide) (v := (.pointer (some ⟨g, 0, none⟩))) ?_
  refine rxV 7 rfl (by kernel_rfl) rfl (fun _ _ => rfl) (fun _ _ hF => opField (off := 1) rfl (hF.ev 0 rfl) (by kernel_rfl)) (kM [false, true, true] rfl rfl) (by decide) (v := (.pointer (some ⟨g, 1, none⟩))) ?_
  refine rxS (fun w => w.heap[g]? = some (.cells #[(.pointer p), (.slice none 0 0)] 43 (0, 0))) 8 rfl (by kernel_rfl) rfl (fun _ _ => rfl) (hH.blk 0 rfl) (fun _ _ hF hS => opLoadK hS rfl (hF.ev 0 rfl) (by kernel_rfl) rfl) (kM [false, true, true] rfl rfl) (by decide) (v := (.slice none 0 0)) ?_
  refine rxV 9 rfl (by kernel_rfl) rfl (fun _ _ => rfl) (fun _ _ hF => opLen (e := 5) rfl (by kernel_rfl) (hF.ev 0 rfl)) (kM [false, true, true] rfl rfl) (by decide) (v := (.int .i64 0)) ?_
  refine rxV 10 rfl (by kernel_rfl) rfl (fun _ _ => rfl) (fun _ _ hF => opUnsafeStr0 rfl rfl (hF.ev 1 rfl) (hF.ev 0 rfl)) (kM [false, false, true] rfl rfl) (by decide) (v := (.string (strL ([])))) ?_
  refine rxV 11 rfl (by kernel_rfl) rfl (fun _ _ => rfl) (fun _ _ hF => opAssign rfl (hF.ev 0 rfl)) (kM [false, false] rfl rfl) (by decide) (v := (.string (strL ([])))) ?_
  refine rxEnd (by kernel_rfl) ?_
  refine qxThen ?_
  refine cxRet ?_
  refine qxRet1 0 rfl rfl ?_
  exact ⟨_, _, rfl, rfl, hH.out [true]⟩

set_option maxHeartbeats 8000000 in
theorem bu_string1 (g gb cap : Nat) (p : Option Addr) (cur : Array Value) (l : List UInt8) (hb : Bk cByte cap cur l) (hc : 0 < cap) : Does Tryd.prog 24 #[(.pointer (some ⟨g, 0, none⟩))] [bl g 43 #[.pointer p, .slice (some ⟨gb, 0, none⟩) l.length cap], bl gb 5 cur] (fun _ => True) (fun v _ => v = .string (strL l)) := by
  refine does_of (fn := Tryd.f24) Tryd.func24 rfl Tryd.ntmps24 (Nat.le_of_ble_eq_true rfl) rfl ?_
  intro w0 hH hR
  replace hH : HH w0 (bks ([bl g 43 #[.pointer p, .slice (some ⟨gb, 0, none⟩) l.length cap], bl gb 5 cur])) [[bl g 43 #[(.pointer p), (.slice (some ⟨gb, 0, none⟩) l.length cap)]], [bl gb 5 cur]] w0 := hH.cast (by simp)
  refine cxSeq ?_
  refine cxReg ?_
  refine pxV (v := (.string (strL ([])))) (fun _ _ hF => opAssign rfl rfl) rfl (fun _ _ => rfl) (kA rfl) (by decide) ?_
  refine pxEnd ?_
  refine qxThen ?_
  refine cxSeq ?_
  refine cxRegX mixedOrders (by kernel_rfl) ?_
  replace hH := hH.drew
  refine rxV 0 rfl (by kernel_rfl) rfl (fun _ _ => rfl) (fun _ _ hF => opMove rfl (hF.ev 1 rfl)) (kA rfl) (by decide) (v := (.pointer (some ⟨g, 0, none⟩))) ?_
  refine rxV 1 rfl (by kernel_rfl) rfl (fun _ _ => rfl) (fun _ _ hF => opNilCheck rfl (hF.ev 0 rfl)) (kM [false, true, true] rfl rfl) (by decide) (v := (.pointer (some ⟨g, 0, none⟩))) ?_
  refine rxV 2 rfl (by kernel_rfl) rfl (fun _ _ => rfl) (fun _ _ hF => opField (off := 1) rfl (hF.ev 0 rfl) (by kernel_rfl)) (kM [false, true, true] rfl rfl) (by decide) (v := (.pointer (some ⟨g, 1, none⟩))) ?_
  refine rxS (fun w => w.heap[g]? = some (.cells #[(.pointer p), (.slice (some ⟨gb, 0, none⟩) l.length cap)] 43 (0, 0))) 3 rfl (by kernel_rfl) rfl (fun _ _ => rfl) (hH.blk 0 rfl) (fun _ _ hF hS => opLoadK hS rfl (hF.ev 0 rfl) (by kernel_rfl) rfl) (kM [false, true, true] rfl rfl) (by decide) (v := (.slice (some ⟨gb, 0, none⟩) l.length cap)) ?_
  refine rxV 4 rfl (by kernel_rfl) rfl (fun _ _ => rfl) (fun _ _ hF => opSliceData rfl (hF.ev 0 rfl) (by omega)) (kM [false, true, true] rfl rfl) (by decide) (v := (.pointer (some ⟨gb, 0, none⟩))) ?_
  refine rxV 5 rfl (by kernel_rfl) rfl (fun _ _ => rfl) (fun _ _ hF => opMove rfl (hF.ev 2 rfl)) (kM [true, true, false] rfl rfl) (by decide) (v := (.pointer (some ⟨g, 0, none⟩))) ?_
  refine rxV 6 rfl (by kernel_rfl) rfl (fun _ _ => rfl) (fun _ _ hF => opNilCheck rfl (hF.ev 0 rfl)) (kM [false, true, true] rfl rfl) (by decide) (v := (.pointer (some ⟨g, 0, none⟩))) ?_
  refine rxV 7 rfl (by kernel_rfl) rfl (fun _ _ => rfl) (fun _ _ hF => opField (off := 1) rfl (hF.ev 0 rfl) (by kernel_rfl)) (kM [false, true, true] rfl rfl) (by decide) (v := (.pointer (some ⟨g, 1, none⟩))) ?_
  refine rxS (fun w => w.heap[g]? = some (.cells #[(.pointer p), (.slice (some ⟨gb, 0, none⟩) l.length cap)] 43 (0, 0))) 8 rfl (by kernel_rfl) rfl (fun _ _ => rfl) (hH.blk 0 rfl) (fun _ _ hF hS => opLoadK hS rfl (hF.ev 0 rfl) (by kernel_rfl) rfl) (kM [false, true, true] rfl rfl) (by decide) (v := (.slice (some ⟨gb, 0, none⟩) l.length cap)) ?_
  refine rxV 9 rfl (by kernel_rfl) rfl (fun _ _ => rfl) (fun _ _ hF => opLen (e := 5) rfl (by kernel_rfl) (hF.ev 0 rfl)) (kM [false, true, true] rfl rfl) (by decide) (v := (.int .i64 (((l.length) : Nat) : Int))) ?_
  refine rx1 10 (by kernel_rfl) ?_
  refine moE 1 rfl hH rfl (fun _ hF => smUnsafeStr (l := l) (e := 5) rfl (by kernel_rfl) (by kernel_rfl) (hF.ev 1 rfl) (hF.ev 0 rfl) hb) trivial rfl (fun _ _ => rfl) (kM [false, false, true] rfl rfl) (by decide) (PendOk.go [9] (by kernel_rfl) (PendOk.go [4] (by kernel_rfl) (PendOk.nil _ []))) ?_
  clear hH
  rintro _ E1 w ⟨rfl, _⟩ hH
  replace hH : HH w0 (bks ([bl g 43 #[.pointer p, .slice (some ⟨gb, 0, none⟩) l.length cap], bl gb 5 cur])) [[bl g 43 #[(.pointer p), (.slice (some ⟨gb, 0, none⟩) l.length cap)]], E1] w := hH
  refine ⟨(fun _ hs => by cases hs), ?_⟩
  refine rxV 11 rfl (by kernel_rfl) rfl (fun _ _ => rfl) (fun _ _ hF => opAssign rfl (hF.ev 0 rfl)) (kM [false, false] rfl rfl) (by decide) (v := (.string (strL l))) ?_
  refine rxEnd (by kernel_rfl) ?_
  refine qxThen ?_
  refine cxRet ?_
  refine qxRet1 0 rfl rfl ?_
  exact ⟨_, _, rfl, rfl, hH.out [true, true]⟩

theorem bu_string (g : Nat) (l : List UInt8) (E : Hl) (hB : BuAt 43 5 g l E) : Does Tryd.prog 24 #[.pointer (some ⟨g, 0, none⟩)] E (fun _ => True) (fun v _ => v = .string (strL l)) := by
  obtain ⟨p, A, c, Fb, hp, hAc, rfl, hOb⟩ := hB
  rcases hOb.cases with ⟨h1, h2, h3⟩ | ⟨gb, cap, cur, h1, h2, hb⟩
  · subst h2 h3
    injection h1 with h1 h4 h5
    subst h1 h5
    exact bu_string0 g p
  · subst h2
    injection h1 with h1 h4 h5
    subst h1 h5
    have hc : 0 < c := by
      rcases hAc with h | h
      · cases h
      · exact h
    exact bu_string1 g gb c p cur l hb hc

set_option maxHeartbeats 8000000 in
theorem bu_grow1 (g n : Nat) (h0 : 0 < n) (hn : n ≤ 140737488355328) : Does Tryd.prog 47 #[(.pointer (some ⟨g, 0, none⟩)), (.int .i64 (((n) : Nat) : Int))] [bl g 43 #[.pointer (some ⟨g, 0, none⟩), .slice none 0 0]] (fun _ => True) (fun v E' => v = .tuple #[] ∧ BuAt 43 5 g ([]) E') := by
  refine does_of (fn := Tryd.f47) Tryd.func47 rfl Tryd.ntmps47 (Nat.le_of_ble_eq_true rfl) rfl ?_
  intro w0 hH hR
  refine cxSeq ?_
  refine cxRegX mixedOrders (by kernel_rfl) ?_
  replace hH := hH.drew
  refine rxV 0 rfl (by kernel_rfl) rfl (fun _ _ => rfl) (fun _ _ hF => opMove rfl (hF.ev 0 rfl)) (kA rfl) (by decide) (v := (.pointer (some ⟨g, 0, none⟩))) ?_
  refine rxV 1 rfl (by kernel_rfl) rfl (fun _ _ => rfl) (fun _ _ hF => opNilCheck rfl (hF.ev 0 rfl)) (kM [false, true, true] rfl rfl) (by decide) (v := (.pointer (some ⟨g, 0, none⟩))) ?_
  refine rxV 2 rfl (by kernel_rfl) rfl (fun _ _ => rfl) (fun _ _ hF => opField (off := 1) rfl (hF.ev 0 rfl) (by kernel_rfl)) (kM [false, true, true] rfl rfl) (by decide) (v := (.pointer (some ⟨g, 1, none⟩))) ?_
  refine rxS (fun w => w.heap[g]? = some (.cells #[(.pointer (some ⟨g, 0, none⟩)), (.slice none 0 0)] 43 (0, 0))) 3 rfl (by kernel_rfl) rfl (fun _ _ => rfl) (hH.blk 0 rfl) (fun _ _ hF hS => opLoadK hS rfl (hF.ev 0 rfl) (by kernel_rfl) rfl) (kM [false, true, true] rfl rfl) (by decide) (v := (.slice none 0 0)) ?_
  refine rxV 4 rfl (by kernel_rfl) rfl (fun _ _ => rfl) (fun _ _ hF => opCap (e := 5) rfl (by kernel_rfl) (hF.ev 0 rfl)) (kM [false, true, true] rfl rfl) (by decide) (v := (.int .i64 0)) ?_
  refine rxV 5 rfl (by kernel_rfl) rfl (fun _ _ => rfl) (fun _ _ hF => opMul rfl rfl (hF.ev 0 rfl) (by decide)) (kM [false, true, true] rfl rfl) (by decide) (v := (.int .i64 0)) ?_
  refine rxV 6 rfl (by kernel_rfl) rfl (fun _ _ => rfl) (fun _ _ hF => opMove rfl (hF.ev 2 rfl)) (kM [true, true, false] rfl rfl) (by decide) (v := (.int .i64 (((n) : Nat) : Int))) ?_
  refine rxV 7 rfl (by kernel_rfl) rfl (fun _ _ => rfl) (fun _ _ hF => opAdd rfl (hF.ev 1 rfl) (hF.ev 0 rfl) (wI (by omega) (by omega) (by omega))) (kM [false, false, true] rfl rfl) (by decide) (v := (.int .i64 (((n) : Nat) : Int))) ?_
  refine rxV 9 rfl (by kernel_rfl) rfl (fun _ _ => rfl) (fun _ _ hF => opMove rfl (hF.ev 1 rfl)) (kA rfl) (by decide) (v := (.pointer (some ⟨g, 0, none⟩))) ?_
  refine rxV 10 rfl (by kernel_rfl) rfl (fun _ _ => rfl) (fun _ _ hF => opNilCheck rfl (hF.ev 0 rfl)) (kM [false, true, true] rfl rfl) (by decide) (v := (.pointer (some ⟨g, 0, none⟩))) ?_
  refine rxV 11 rfl (by kernel_rfl) rfl (fun _ _ => rfl) (fun _ _ hF => opField (off := 1) rfl (hF.ev 0 rfl) (by kernel_rfl)) (kM [false, true, true] rfl rfl) (by decide) (v := (.pointer (some ⟨g, 1, none⟩))) ?_
  refine rxS (fun w => w.heap[g]? = some (.cells #[(.pointer (some ⟨g, 0, none⟩)), (.slice none 0 0)] 43 (0, 0))) 12 rfl (by kernel_rfl) rfl (fun _ _ => rfl) (hH.blk 0 rfl) (fun _ _ hF hS => opLoadK hS rfl (hF.ev 0 rfl) (by kernel_rfl) rfl) (kM [false, true, true] rfl rfl) (by decide) (v := (.slice none 0 0)) ?_
  refine rxV 13 rfl (by kernel_rfl) rfl (fun _ _ => rfl) (fun _ _ hF => opLen (e := 5) rfl (by kernel_rfl) (hF.ev 0 rfl)) (kM [false, true, true] rfl rfl) (by decide) (v := (.int .i64 0)) ?_
  refine rx1 8 (by kernel_rfl) ?_
  refine moM rfl hH (fun _ hF => smMakeNoZero (n := n) (ps := #[3]) (ty := 22) (e := 5) rfl Tryd.func52 rfl (by kernel_rfl) (by kernel_rfl) (by kernel_rfl) (by kernel_rfl) (hF.ev 1 rfl) hn) trivial rfl (fun _ _ => rfl) (kM [true, false, true] rfl rfl) (by decide) (PendOk.keep (PendOk.go [7, 5, 4] (by kernel_rfl) (PendOk.nil _ []))) ?_
  clear hH
  rintro _ _ w ⟨g1, cs2, rfl, rfl, hc3, hm4⟩ hH
  replace hH : HH w0 (bks ([bl g 43 #[.pointer (some ⟨g, 0, none⟩), .slice none 0 0]])) [[bl g 43 #[(.pointer (some ⟨g, 0, none⟩)), (.slice none 0 0)]], [bl g1 5 cs2]] w := hH
  have hB5 : Bk cByte cs2.size cs2 [] := ⟨Nat.zero_le _, hm4, (Nat.mul_one _).symm, rfl⟩
  refine ⟨(by
    intro s hs
    simp only [List.mem_cons, List.not_mem_nil, or_false] at hs
    rcases hs with rfl
    · exact (hH.blk 0 rfl)
    ), ?_⟩
  refine rxV 14 rfl (by kernel_rfl) rfl (fun _ _ => rfl) (fun _ _ hF => opCutH (h := 0) (e := 5) (sz := 1) rfl (by kernel_rfl) (by kernel_rfl) (hF.ev 0 rfl) (hF.ev 1 rfl) rfl (by omega)) (kM [false, false, true] rfl rfl) (by decide) (v := (.slice (some ⟨g1, 0, none⟩) 0 cs2.size)) ?_
  refine rxV 15 rfl (by kernel_rfl) rfl (fun _ _ => rfl) (fun _ _ hF => opAssign rfl (hF.ev 0 rfl)) (kM [false, true] rfl rfl) (by decide) (v := (.slice (some ⟨g1, 0, none⟩) 0 cs2.size)) ?_
  refine rxEnd (by kernel_rfl) ?_
  refine qxThen ?_
  refine cxSeq ?_
  refine cxReg ?_
  refine pxV (v := (.slice (some ⟨g1, 0, none⟩) 0 cs2.size)) (fun _ _ hF => opMove rfl (hF.ev 0 rfl)) rfl (fun _ _ => rfl) (kA rfl) (by decide) ?_
  refine pxV (v := (.pointer (some ⟨g, 0, none⟩))) (fun _ _ hF => opMove rfl (hF.ev 2 rfl)) rfl (fun _ _ => rfl) (kA rfl) (by decide) ?_
  refine pxV (v := (.pointer (some ⟨g, 0, none⟩))) (fun _ _ hF => opNilCheck rfl (hF.ev 0 rfl)) rfl (fun _ _ => rfl) (kM [false, true, true, true] rfl rfl) (by decide) ?_
  refine pxV (v := (.pointer (some ⟨g, 1, none⟩))) (fun _ _ hF => opField (off := 1) rfl (hF.ev 0 rfl) (by kernel_rfl)) rfl (fun _ _ => rfl) (kM [false, true, true, true] rfl rfl) (by decide) ?_
  refine pxS (v := (.slice none 0 0)) (fun w => w.heap[g]? = some (.cells #[(.pointer (some ⟨g, 0, none⟩)), (.slice none 0 0)] 43 (0, 0))) (hH.blk 0 rfl) (fun _ _ hF hS => opLoadK hS rfl (hF.ev 0 rfl) (by kernel_rfl) rfl) rfl (fun _ _ => rfl) (kM [false, true, true, true] rfl rfl) (by decide) ?_
  obtain ⟨cur7, hcs8, hB6⟩ : ∃ cs, putL cs2 (0) (flat cByte ([])) = cs ∧ Bk cByte cs2.size cs ([].take 0 ++ ([] ++ [].drop (0 + ([]).length))) := ⟨_, rfl, hB5.copy 0 ([]) (by omega)⟩
  refine pxE 1 hH rfl (fun _ hF => smCopyT (C := cByte) (m := []) (e := 5) rfl (by kernel_rfl) (by kernel_rfl) (ltb rfl) (hF.ev 1 rfl) (hF.ev 0 rfl) (by omega) rfl (by omega) hcs8) (Vu.none cByte _) rfl (fun _ _ => rfl) (kM [false, false, true, true] rfl rfl) (by decide) ?_
  clear hH
  rintro _ _ w ⟨rfl, rfl⟩ hH
  replace hH : HH w0 (bks ([bl g 43 #[.pointer (some ⟨g, 0, none⟩), .slice none 0 0]])) [[bl g 43 #[(.pointer (some ⟨g, 0, none⟩)), (.slice none 0 0)]], [bl g1 5 cur7]] w := hH
  refine pxEnd ?_
  refine qxThen ?_
  refine cxReg ?_
  refine pxV (v := (.pointer (some ⟨g, 0, none⟩))) (fun _ _ hF => opMove rfl (hF.ev 2 rfl)) rfl (fun _ _ => rfl) (kM [false, true, false] rfl rfl) (by decide) ?_
  refine pxV (v := (.slice (some ⟨g1, 0, none⟩) 0 cs2.size)) (fun _ _ hF => opMove rfl (hF.ev 1 rfl)) rfl (fun _ _ => rfl) (kM [true, false] rfl rfl) (by decide) ?_
  refine pxV (v := (.pointer (some ⟨g, 0, none⟩))) (fun _ _ hF => opNilCheck rfl (hF.ev 1 rfl)) rfl (fun _ _ => rfl) (kM [true, false] rfl rfl) (by decide) ?_
  refine pxV (v := (.pointer (some ⟨g, 1, none⟩))) (fun _ _ hF => opField (off := 1) rfl (hF.ev 0 rfl) (by kernel_rfl)) rfl (fun _ _ => rfl) (kM [false, true] rfl rfl) (by decide) ?_
  refine pxE0 0 hH rfl (fun _ hF => smStore (v := (.slice (some ⟨g1, 0, none⟩) 0 cs2.size)) rfl (hF.ev 0 rfl) (hF.ev 1 rfl) (by kernel_rfl) (ltb rfl) rfl rfl) trivial rfl (fun _ _ => rfl) ?_
  clear hH
  rintro _ _ w rfl hH
  replace hH : HH w0 (bks ([bl g 43 #[.pointer (some ⟨g, 0, none⟩), .slice none 0 0]])) [[bl g 43 #[(.pointer (some ⟨g, 0, none⟩)), (.slice (some ⟨g1, 0, none⟩) 0 cs2.size)]], [bl g1 5 cur7]] w := hH
  refine pxEnd ?_
  refine qxEnd0 rfl ?_
  exact ⟨_, _, rfl, ⟨rfl, BuAt.mk (.inr rfl) rfl (hB6.own 5 g1 rfl) (.inr (.inr (by omega)))⟩, hH.out [true, true]⟩

set_option maxHeartbeats 8000000 in
theorem bu_grow (g n : Nat) (hn : n ≤ 140737488355328) : Does Tryd.prog 38 #[(.pointer (some ⟨g, 0, none⟩)), (.int .i64 (((n) : Nat) : Int))] [bl g 43 #[.pointer none, .slice none 0 0]] (fun _ => True) (fun v E' => v = .tuple #[] ∧ BuAt 43 5 g ([]) E') := by
  refine does_of (fn := Tryd.f38) Tryd.func38 rfl Tryd.ntmps38 (Nat.le_of_ble_eq_true rfl) rfl ?_
  intro w0 hH hR
  refine cxSeq ?_
  refine cxReg ?_
  refine pxV (v := (.pointer (some ⟨g, 0, none⟩))) (fun _ _ hF => opMove rfl (hF.ev 0 rfl)) rfl (fun _ _ => rfl) (kA rfl) (by decide) ?_
  refine pxE 0 hH rfl (fun _ hF => Does.small (bu_check g none (.slice none 0 0) (.inl rfl)) (fun w => opCall rfl Tryd.func36 rfl rfl (Evs.cons (v := (.pointer (some ⟨g, 0, none⟩))) (hF.ev 0 rfl) Evs.nil) w)) trivial rfl (fun _ _ => rfl) (kM [false, true, true] rfl rfl) (by decide) ?_
  clear hH
  rintro _ _ w ⟨rfl, rfl⟩ hH
  replace hH : HH w0 (bks ([bl g 43 #[.pointer none, .slice none 0 0]])) [[bl g 43 #[(.pointer (some ⟨g, 0, none⟩)), (.slice none 0 0)]]] w := hH
  refine pxEnd ?_
  refine qxThen ?_
  refine cxSeq ?_
  refine cxSeq ?_
  refine cxReg ?_
  refine pxV (v := (.int .i64 (((n) : Nat) : Int))) (fun _ _ hF => opMove rfl (hF.ev 2 rfl)) rfl (fun _ _ => rfl) (kM [false, true, true] rfl rfl) (by decide) ?_
  refine pxV (v := (.bool false)) (fun _ _ hF => opLss rfl (hF.ev 0 rfl) rfl (decide_eq_false (by omega))) rfl (fun _ _ => rfl) (kM [false, true, true] rfl rfl) (by decide) ?_
  refine pxEnd ?_
  refine qxThen ?_
  refine cxF 0 rfl rfl ?_
  refine cxSkip ?_
  refine qxThen ?_
  refine cxSeq ?_
  refine cxRegX mixedOrders (by kernel_rfl) ?_
  replace hH := hH.drew
  refine rxV 0 rfl (by kernel_rfl) rfl (fun _ _ => rfl) (fun _ _ hF => opMove rfl (hF.ev 1 rfl)) (kM [false, true, true] rfl rfl) (by decide) (v := (.pointer (some ⟨g, 0, none⟩))) ?_
  refine rxV 1 rfl (by kernel_rfl) rfl (fun _ _ => rfl) (fun _ _ hF => opNilCheck rfl (hF.ev 0 rfl)) (kM [false, true, true] rfl rfl) (by decide) (v := (.pointer (some ⟨g, 0, none⟩))) ?_
  refine rxV 2 rfl (by kernel_rfl) rfl (fun _ _ => rfl) (fun _ _ hF => opField (off := 1) rfl (hF.ev 0 rfl) (by kernel_rfl)) (kM [false, true, true] rfl rfl) (by decide) (v := (.pointer (some ⟨g, 1, none⟩))) ?_
  refine rxS (fun w => w.heap[g]? = some (.cells #[(.pointer (some ⟨g, 0, none⟩)), (.slice none 0 0)] 43 (0, 0))) 3 rfl (by kernel_rfl) rfl (fun _ _ => rfl) (hH.blk 0 rfl) (fun _ _ hF hS => opLoadK hS rfl (hF.ev 0 rfl) (by kernel_rfl) rfl) (kM [false, true, true] rfl rfl) (by decide) (v := (.slice none 0 0)) ?_
  refine rxV 4 rfl (by kernel_rfl) rfl (fun _ _ => rfl) (fun _ _ hF => opCap (e := 5) rfl (by kernel_rfl) (hF.ev 0 rfl)) (kM [false, true, true] rfl rfl) (by decide) (v := (.int .i64 0)) ?_
  refine rxV 5 rfl (by kernel_rfl) rfl (fun _ _ => rfl) (fun _ _ hF => opMove rfl (hF.ev 1 rfl)) (kA rfl) (by decide) (v := (.pointer (some ⟨g, 0, none⟩))) ?_
  refine rxV 6 rfl (by kernel_rfl) rfl (fun _ _ => rfl) (fun _ _ hF => opNilCheck rfl (hF.ev 0 rfl)) (kM [false, true, true, true] rfl rfl) (by decide) (v := (.pointer (some ⟨g, 0, none⟩))) ?_
  refine rxV 7 rfl (by kernel_rfl) rfl (fun _ _ => rfl) (fun _ _ hF => opField (off := 1) rfl (hF.ev 0 rfl) (by kernel_rfl)) (kM [false, true, true, true] rfl rfl) (by decide) (v := (.pointer (some ⟨g, 1, none⟩))) ?_
  refine rxS (fun w => w.heap[g]? = some (.cells #[(.pointer (some ⟨g, 0, none⟩)), (.slice none 0 0)] 43 (0, 0))) 8 rfl (by kernel_rfl) rfl (fun _ _ => rfl) (hH.blk 0 rfl) (fun _ _ hF hS => opLoadK hS rfl (hF.ev 0 rfl) (by kernel_rfl) rfl) (kM [false, true, true, true] rfl rfl) (by decide) (v := (.slice none 0 0)) ?_
  refine rxV 9 rfl (by kernel_rfl) rfl (fun _ _ => rfl) (fun _ _ hF => opLen (e := 5) rfl (by kernel_rfl) (hF.ev 0 rfl)) (kM [false, true, true, true] rfl rfl) (by decide) (v := (.int .i64 0)) ?_
  refine rxV 10 rfl (by kernel_rfl) rfl (fun _ _ => rfl) (fun _ _ hF => opSub rfl (hF.ev 1 rfl) (hF.ev 0 rfl) (by decide)) (kM [false, false, true, true] rfl rfl) (by decide) (v := (.int .i64 0)) ?_
  refine rxV 11 rfl (by kernel_rfl) rfl (fun _ _ => rfl) (fun _ _ hF => opMove rfl (hF.ev 2 rfl)) (kA rfl) (by decide) (v := (.int .i64 (((n) : Nat) : Int))) ?_
  refine rxV 12 rfl (by kernel_rfl) rfl (fun _ _ => rfl) (fun _ _ hF => opLss rfl (hF.ev 1 rfl) (hF.ev 0 rfl) (dc (by omega))) (kM [false, false, true, true] rfl rfl) (by decide) (v := (.bool (decide (0 < n)))) ?_
  refine rxEnd (by kernel_rfl) ?_
  refine qxThen ?_
  refine cxP 0 rfl rfl (fun hc1 => ?_) (fun hc1 => ?_)
  · refine cxReg ?_
    refine pxV (v := (.pointer (some ⟨g, 0, none⟩))) (fun _ _ hF => opMove rfl (hF.ev 1 rfl)) rfl (fun _ _ => rfl) (kM [false, false, true] rfl rfl) (by decide) ?_
    refine pxV (v := (.int .i64 (((n) : Nat) : Int))) (fun _ _ hF => opMove rfl (hF.ev 1 rfl)) rfl (fun _ _ => rfl) (kM [true, false] rfl rfl) (by decide) ?_
    refine pxE 0 hH rfl (fun _ hF => Does.small (bu_grow1 g n hc1 hn) (fun w => opCall rfl Tryd.func47 rfl rfl (Evs.cons (v := (.pointer (some ⟨g, 0, none⟩))) (hF.ev 1 rfl) (Evs.cons (v := (.int .i64 (((n) : Nat) : Int))) (hF.ev 0 rfl) Evs.nil)) w)) trivial rfl (fun _ _ => rfl) (kM [false, false] rfl rfl) (by decide) ?_
    clear hH
    rintro _ E2 w ⟨rfl, hB3⟩ hH
    replace hH : HH w0 (bks ([bl g 43 #[.pointer none, .slice none 0 0]])) [E2] w := hH
    refine pxEnd ?_
    refine qxEnd0 rfl ?_
    exact ⟨_, _, rfl, ⟨rfl, hB3⟩, hH.out1 [true] rfl⟩
  · refine cxSkip ?_
    refine qxEnd0 rfl ?_
    exact ⟨_, _, rfl, ⟨rfl, (by have := BuAt.mk (tb := 43) (tu := 5) (g := g) (p := some ⟨g, 0, none⟩) (l := []) (.inr rfl) rfl (OwnT.nil cByte 5) (.inr (.inl rfl)); simpa using this)⟩, hH.out1 [true] rfl⟩

end Go.Proofs.YtadbpmcmdcnlfaaDoor
