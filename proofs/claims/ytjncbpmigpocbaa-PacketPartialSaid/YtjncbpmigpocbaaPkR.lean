/- The program's reader, and Parse (mkpr.py writes this text). -/
import Derived.Test.YtjncbpmigpocbaaPkF
namespace Go.Proofs.Ytjncbpmigpocbaa
open Go Go.RowKit
set_option maxRecDepth 100000

set_option maxHeartbeats 8000000 in
theorem take_ok (g c : Nat) (A : Option Addr) (b : List UInt8) (n : Nat) (hn : n ≤ b.length) : Does Try.prog 27 #[(.pointer (some ⟨g, 0, none⟩)), (.int .i64 (((n) : Nat) : Int))] [bl g 43 #[.slice A b.length c]] (fun w => Vu cByte w A b.length c b) (fun v E' => v = .tuple #[.slice A n c, .bool true] ∧ ∃ A' c', E' = [bl g 43 #[.slice A' (b.drop n).length c']] ∧ Sfx A c b A' c' (b.drop n)) := by
  refine does_of (fn := Try.f27) Try.func27 rfl Try.ntmps27 (Nat.le_of_ble_eq_true rfl) rfl ?_
  intro w0 hH hR
  have hcap := hR.cap
  refine cxSeq ?_
  refine cxReg ?_
  refine pxV (v := (.slice none 0 0)) (fun _ _ hF => opAssign rfl rfl) rfl (fun _ _ => rfl) (kA rfl) (by decide) ?_
  refine pxV (v := (.bool false)) (fun _ _ hF => opAssign rfl rfl) rfl (fun _ _ => rfl) (kM [false, true, true] rfl rfl) (by decide) ?_
  refine pxEnd ?_
  refine qxThen ?_
  refine cxSeq ?_
  refine cxSeq ?_
  refine cxReg ?_
  refine pxV (v := (.int .i64 (((n) : Nat) : Int))) (fun _ _ hF => opMove rfl (hF.ev 2 rfl)) rfl (fun _ _ => rfl) (kM [false, true, true] rfl rfl) (by decide) ?_
  refine pxV (v := (.pointer (some ⟨g, 0, none⟩))) (fun _ _ hF => opMove rfl (hF.ev 1 rfl)) rfl (fun _ _ => rfl) (kA rfl) (by decide) ?_
  refine pxV (v := (.pointer (some ⟨g, 0, none⟩))) (fun _ _ hF => opNilCheck rfl (hF.ev 0 rfl)) rfl (fun _ _ => rfl) (kM [false, true, true, true] rfl rfl) (by decide) ?_
  refine pxV (v := (.pointer (some ⟨g, 0, none⟩))) (fun _ _ hF => opField (off := 0) rfl (hF.ev 0 rfl) (by kernel_rfl)) rfl (fun _ _ => rfl) (kM [false, true, true, true] rfl rfl) (by decide) ?_
  refine pxS (v := (.slice A b.length c)) (fun w => w.heap[g]? = some (.cells #[(.slice A b.length c)] 43 (0, 0))) (hH.blk 0 rfl) (fun _ _ hF hS => opLoadK hS rfl (hF.ev 0 rfl) (by kernel_rfl) rfl) rfl (fun _ _ => rfl) (kM [false, true, true, true] rfl rfl) (by decide) ?_
  refine pxV (v := (.int .i64 (((b.length) : Nat) : Int))) (fun _ _ hF => opLen (e := 5) rfl (by kernel_rfl) (hF.ev 0 rfl)) rfl (fun _ _ => rfl) (kM [false, true, true, true] rfl rfl) (by decide) ?_
  refine pxV (v := (.bool false)) (fun _ _ hF => opGtr rfl (hF.ev 1 rfl) (hF.ev 0 rfl) (decide_eq_false (by omega))) rfl (fun _ _ => rfl) (kM [false, false, true, true] rfl rfl) (by decide) ?_
  refine pxEnd ?_
  refine qxThen ?_
  refine cxF 0 rfl rfl ?_
  refine cxSkip ?_
  refine qxThen ?_
  refine cxSeq ?_
  refine cxReg ?_
  refine pxV (v := (.pointer (some ⟨g, 0, none⟩))) (fun _ _ hF => opMove rfl (hF.ev 1 rfl)) rfl (fun _ _ => rfl) (kM [false, true, true] rfl rfl) (by decide) ?_
  refine pxV (v := (.pointer (some ⟨g, 0, none⟩))) (fun _ _ hF => opNilCheck rfl (hF.ev 0 rfl)) rfl (fun _ _ => rfl) (kM [false, true, true] rfl rfl) (by decide) ?_
  refine pxV (v := (.pointer (some ⟨g, 0, none⟩))) (fun _ _ hF => opField (off := 0) rfl (hF.ev 0 rfl) (by kernel_rfl)) rfl (fun _ _ => rfl) (kM [false, true, true] rfl rfl) (by decide) ?_
  refine pxS (v := (.slice A b.length c)) (fun w => w.heap[g]? = some (.cells #[(.slice A b.length c)] 43 (0, 0))) (hH.blk 0 rfl) (fun _ _ hF hS => opLoadK hS rfl (hF.ev 0 rfl) (by kernel_rfl) rfl) rfl (fun _ _ => rfl) (kM [false, true, true] rfl rfl) (by decide) ?_
  refine pxV (v := (.int .i64 (((n) : Nat) : Int))) (fun _ _ hF => opMove rfl (hF.ev 2 rfl)) rfl (fun _ _ => rfl) (kA rfl) (by decide) ?_
  refine pxV (v := (.slice A n c)) (fun _ _ hF => opCutH (h := n) (e := 5) (sz := 1) rfl (by kernel_rfl) (by kernel_rfl) (hF.ev 1 rfl) (hF.ev 0 rfl) rfl (by omega)) rfl (fun _ _ => rfl) (kM [false, false, true, true] rfl rfl) (by decide) ?_
  refine pxV (v := (.slice A n c)) (fun _ _ hF => opAssign rfl (hF.ev 0 rfl)) rfl (fun _ _ => rfl) (kM [false, true, true] rfl rfl) (by decide) ?_
  refine pxEnd ?_
  refine qxThen ?_
  refine cxSeq ?_
  refine cxReg ?_
  refine pxV (v := (.pointer (some ⟨g, 0, none⟩))) (fun _ _ hF => opMove rfl (hF.ev 1 rfl)) rfl (fun _ _ => rfl) (kA rfl) (by decide) ?_
  refine pxV (v := (.pointer (some ⟨g, 0, none⟩))) (fun _ _ hF => opMove rfl (hF.ev 2 rfl)) rfl (fun _ _ => rfl) (kM [true, true, false, true] rfl rfl) (by decide) ?_
  refine pxV (v := (.pointer (some ⟨g, 0, none⟩))) (fun _ _ hF => opNilCheck rfl (hF.ev 0 rfl)) rfl (fun _ _ => rfl) (kM [false, true, true, true] rfl rfl) (by decide) ?_
  refine pxV (v := (.pointer (some ⟨g, 0, none⟩))) (fun _ _ hF => opField (off := 0) rfl (hF.ev 0 rfl) (by kernel_rfl)) rfl (fun _ _ => rfl) (kM [false, true, true, true] rfl rfl) (by decide) ?_
  refine pxS (v := (.slice A b.length c)) (fun w => w.heap[g]? = some (.cells #[(.slice A b.length c)] 43 (0, 0))) (hH.blk 0 rfl) (fun _ _ hF hS => opLoadK hS rfl (hF.ev 0 rfl) (by kernel_rfl) rfl) rfl (fun _ _ => rfl) (kM [false, true, true, true] rfl rfl) (by decide) ?_
  refine pxV (v := (.int .i64 (((n) : Nat) : Int))) (fun _ _ hF => opMove rfl (hF.ev 3 rfl)) rfl (fun _ _ => rfl) (kM [true, true, true, false] rfl rfl) (by decide) ?_
  refine pxV (v := (.slice (cutA A c n 1) (b.length - n) (c - n))) (fun _ _ hF => opCutL (k := n) (e := 5) (sz := 1) rfl (by kernel_rfl) (by kernel_rfl) (hF.ev 1 rfl) (hF.ev 0 rfl) rfl (by omega)) rfl (fun _ _ => rfl) (kM [false, false, true, true] rfl rfl) (by decide) ?_
  refine pxV (v := (.pointer (some ⟨g, 0, none⟩))) (fun _ _ hF => opNilCheck rfl (hF.ev 1 rfl)) rfl (fun _ _ => rfl) (kM [true, false, true] rfl rfl) (by decide) ?_
  refine pxV (v := (.pointer (some ⟨g, 0, none⟩))) (fun _ _ hF => opField (off := 0) rfl (hF.ev 0 rfl) (by kernel_rfl)) rfl (fun _ _ => rfl) (kM [false, true, true] rfl rfl) (by decide) ?_
  refine pxE0 0 hH rfl (fun _ hF => smStore (v := (.slice (cutA A c n 1) (b.length - n) (c - n))) rfl (hF.ev 0 rfl) (hF.ev 1 rfl) (by kernel_rfl) (ltb rfl) rfl rfl) trivial rfl (fun _ _ => rfl) ?_
  clear hH
  rintro _ _ w rfl hH
  replace hH : HH w0 (bks ([bl g 43 #[.slice A b.length c]])) [[bl g 43 #[(.slice (cutA A c n 1) (b.length - n) (c - n))]]] w := hH
  refine pxEnd ?_
  refine qxThen ?_
  refine cxSeq ?_
  refine cxReg ?_
  refine pxV (v := (.slice A n c)) (fun _ _ hF => opMove rfl (hF.ev 2 rfl)) rfl (fun _ _ => rfl) (kM [false, false, false] rfl rfl) (by decide) ?_
  refine pxV (v := (.slice A n c)) (fun _ _ hF => opAssign rfl (hF.ev 0 rfl)) rfl (fun _ _ => rfl) (kM [false] rfl rfl) (by decide) ?_
  refine pxV (v := (.bool true)) (fun _ _ hF => opAssign rfl rfl) rfl (fun _ _ => rfl) (kA rfl) (by decide) ?_
  refine pxEnd ?_
  refine qxThen ?_
  refine cxRet ?_
  refine qxRet2 1 0 rfl rfl rfl ?_
  exact ⟨_, _, rfl, ⟨rfl, _, _, by rw [List.length_drop], sfx_drop hn⟩, hH.out1 [true] rfl⟩

set_option maxHeartbeats 8000000 in
theorem take_no (g c : Nat) (A : Option Addr) (b : List UInt8) (n : Nat) (hn : b.length < n) : Does Try.prog 27 #[(.pointer (some ⟨g, 0, none⟩)), (.int .i64 (((n) : Nat) : Int))] [bl g 43 #[.slice A b.length c]] (fun w => Vu cByte w A b.length c b) (fun v E' => v = .tuple #[.slice none 0 0, .bool false] ∧ ∃ A' c', E' = [bl g 43 #[.slice A' b.length c']] ∧ Sfx A c b A' c' b) := by
  refine does_of (fn := Try.f27) Try.func27 rfl Try.ntmps27 (Nat.le_of_ble_eq_true rfl) rfl ?_
  intro w0 hH hR
  have hcap := hR.cap
  refine cxSeq ?_
  refine cxReg ?_
  refine pxV (v := (.slice none 0 0)) (fun _ _ hF => opAssign rfl rfl) rfl (fun _ _ => rfl) (kA rfl) (by decide) ?_
  refine pxV (v := (.bool false)) (fun _ _ hF => opAssign rfl rfl) rfl (fun _ _ => rfl) (kM [false, true, true] rfl rfl) (by decide) ?_
  refine pxEnd ?_
  refine qxThen ?_
  refine cxSeq ?_
  refine cxSeq ?_
  refine cxReg ?_
  refine pxV (v := (.int .i64 (((n) : Nat) : Int))) (fun _ _ hF => opMove rfl (hF.ev 2 rfl)) rfl (fun _ _ => rfl) (kM [false, true, true] rfl rfl) (by decide) ?_
  refine pxV (v := (.pointer (some ⟨g, 0, none⟩))) (fun _ _ hF => opMove rfl (hF.ev 1 rfl)) rfl (fun _ _ => rfl) (kA rfl) (by decide) ?_
  refine pxV (v := (.pointer (some ⟨g, 0, none⟩))) (fun _ _ hF => opNilCheck rfl (hF.ev 0 rfl)) rfl (fun _ _ => rfl) (kM [false, true, true, true] rfl rfl) (by decide) ?_
  refine pxV (v := (.pointer (some ⟨g, 0, none⟩))) (fun _ _ hF => opField (off := 0) rfl (hF.ev 0 rfl) (by kernel_rfl)) rfl (fun _ _ => rfl) (kM [false, true, true, true] rfl rfl) (by decide) ?_
  refine pxS (v := (.slice A b.length c)) (fun w => w.heap[g]? = some (.cells #[(.slice A b.length c)] 43 (0, 0))) (hH.blk 0 rfl) (fun _ _ hF hS => opLoadK hS rfl (hF.ev 0 rfl) (by kernel_rfl) rfl) rfl (fun _ _ => rfl) (kM [false, true, true, true] rfl rfl) (by decide) ?_
  refine pxV (v := (.int .i64 (((b.length) : Nat) : Int))) (fun _ _ hF => opLen (e := 5) rfl (by kernel_rfl) (hF.ev 0 rfl)) rfl (fun _ _ => rfl) (kM [false, true, true, true] rfl rfl) (by decide) ?_
  refine pxV (v := (.bool true)) (fun _ _ hF => opGtr rfl (hF.ev 1 rfl) (hF.ev 0 rfl) (decide_eq_true (by omega))) rfl (fun _ _ => rfl) (kM [false, false, true, true] rfl rfl) (by decide) ?_
  refine pxEnd ?_
  refine qxThen ?_
  refine cxT 0 rfl rfl ?_
  refine cxSeq ?_
  refine cxReg ?_
  refine pxV (v := (.slice none 0 0)) (fun _ _ hF => opAssign rfl rfl) rfl (fun _ _ => rfl) (kM [false, false, false] rfl rfl) (by decide) ?_
  refine pxV (v := (.bool false)) (fun _ _ hF => opAssign rfl rfl) rfl (fun _ _ => rfl) (kA rfl) (by decide) ?_
  refine pxEnd ?_
  refine qxThen ?_
  refine cxRet ?_
  refine qxThenR ?_
  refine qxRet2 1 0 rfl rfl rfl ?_
  exact ⟨_, _, rfl, ⟨rfl, _, _, rfl, Sfx.refl _ _ _⟩, hH.out1 [true] rfl⟩

set_option maxHeartbeats 8000000 in
theorem number_ok (g c : Nat) (A : Option Addr) (b : List UInt8) (hA : Off A b.length [g]) (n : Nat) (hn : n ≤ b.length) (h8 : n ≤ 8) (x : Nat) (hx : beN (b.take n) = x) : Does Try.prog 23 #[(.pointer (some ⟨g, 0, none⟩)), (.int .i64 (((n) : Nat) : Int))] [bl g 43 #[.slice A b.length c]] (fun w => Vu cByte w A b.length c b) (fun v E' => v = .tuple #[.int .u64 (x : Int), .bool true] ∧ ∃ A' c', E' = [bl g 43 #[.slice A' (b.drop n).length c']] ∧ Sfx A c b A' c' (b.drop n)) := by
  refine does_of (fn := Try.f23) Try.func23 rfl Try.ntmps23 (Nat.le_of_ble_eq_true rfl) rfl ?_
  intro w0 hH hR
  have hcap := hR.cap
  refine cxSeq ?_
  refine cxReg ?_
  refine pxV (v := (.int .u64 0)) (fun _ _ hF => opAssign rfl rfl) rfl (fun _ _ => rfl) (kA rfl) (by decide) ?_
  refine pxV (v := (.bool false)) (fun _ _ hF => opAssign rfl rfl) rfl (fun _ _ => rfl) (kM [false, true, true] rfl rfl) (by decide) ?_
  refine pxEnd ?_
  refine qxThen ?_
  refine cxSeq ?_
  refine cxReg ?_
  refine pxV (v := (.pointer (some ⟨g, 0, none⟩))) (fun _ _ hF => opMove rfl (hF.ev 1 rfl)) rfl (fun _ _ => rfl) (kM [false, false, true] rfl rfl) (by decide) ?_
  refine pxV (v := (.int .i64 (((n) : Nat) : Int))) (fun _ _ hF => opMove rfl (hF.ev 1 rfl)) rfl (fun _ _ => rfl) (kM [true, false] rfl rfl) (by decide) ?_
  refine pxE 0 hH rfl (fun _ hF => Does.small (take_ok g c A b n hn) (fun w => opCall rfl Try.func27 rfl rfl (Evs.cons (v := (.pointer (some ⟨g, 0, none⟩))) (hF.ev 1 rfl) (Evs.cons (v := (.int .i64 (((n) : Nat) : Int))) (hF.ev 0 rfl) Evs.nil)) w)) (hH.vu hR (by decide) hA) rfl (fun _ _ => rfl) (kM [false, false] rfl rfl) (by decide) ?_
  clear hH
  rintro _ _ w ⟨rfl, A1, c2, rfl, hS3⟩ hH
  obtain ⟨hV4, hQ5⟩ := hS3 w0 hR
  replace hV4 : Vu cByte w0 A1 (b.drop n).length c2 (b.drop n) := hV4
  replace hQ5 := hQ5 _ hA
  replace hH : HH w0 (bks ([bl g 43 #[.slice A b.length c]])) [[bl g 43 #[(.slice A1 ((b.drop n).length) c2)]]] w := hH
  refine pxV (v := (.tuple #[(.slice A n c), (.bool true)])) (fun _ _ hF => opMove rfl (hF.ev 0 rfl)) rfl (fun _ _ => rfl) (kM [false] rfl rfl) (by decide) ?_
  refine pxV (v := (.slice A n c)) (fun _ _ hF => opExtract rfl (hF.ev 0 rfl) rfl) rfl (fun _ _ => rfl) (kA rfl) (by decide) ?_
  refine pxV (v := (.bool true)) (fun _ _ hF => opExtract rfl (hF.ev 1 rfl) rfl) rfl (fun _ _ => rfl) (kM [true, false] rfl rfl) (by decide) ?_
  refine pxV (v := (.slice A n c)) (fun _ _ hF => opAssign rfl (hF.ev 1 rfl)) rfl (fun _ _ => rfl) (kM [true, false] rfl rfl) (by decide) ?_
  refine pxV (v := (.bool true)) (fun _ _ hF => opAssign rfl (hF.ev 1 rfl)) rfl (fun _ _ => rfl) (kM [true, false] rfl rfl) (by decide) ?_
  refine pxEnd ?_
  refine qxThen ?_
  refine cxSeq ?_
  refine cxReg ?_
  refine pxV (v := (.int .u64 0)) (fun _ _ hF => opAssign rfl rfl) rfl (fun _ _ => rfl) (kA rfl) (by decide) ?_
  refine pxEnd ?_
  refine qxThen ?_
  refine cxSeq ?_
  refine cxSeq ?_
  have hlt : (b.take n).length = n := by rw [List.length_take]; omega
  refine cxReg ?_
  refine pxV (v := (.slice A n c)) (fun _ _ hF => opMove rfl (hF.ev 2 rfl)) rfl (fun _ _ => rfl) (kM [true, true, false] rfl rfl) (by decide) ?_
  refine pxV (v := (.int .i64 (((n) : Nat) : Int))) (fun _ _ hF => opLen (e := 5) rfl (by kernel_rfl) (hF.ev 0 rfl)) rfl (fun _ _ => rfl) (kA rfl) (by decide) ?_
  refine pxV (v := (.int .i64 0)) (fun _ _ hF => opMove rfl rfl) rfl (fun _ _ => rfl) (kA rfl) (by decide) ?_
  refine pxEnd ?_
  refine qxThen ?_
  refine cxBlock ?_
  refine cxLoop (σ := Nat × Nat) (fun x => [(19, (.int .i64 (((x.1) : Nat) : Int))), (18, (.int .i64 (((n) : Nat) : Int))), (17, (.slice A n c)), (8, (.int .u64 (((x.2) : Nat) : Int))), (7, (.bool true))]) (fun x w => HH w0 (bks ([bl g 43 #[.slice A b.length c]])) [[bl g 43 #[(.slice A1 ((b.drop n).length) c2)]]] w ∧ (x.1 ≤ n) ∧ (x.2 = beN ((b.take n).take x.1))) (fun x => n - x.1) (0, 0) ⟨hH, (Nat.zero_le _), rfl⟩ (slots_at [0, 1, 2, 3, 4] rfl) ?_
  clear hH
  rintro ⟨i, v⟩ w ⟨hH, hi, hv⟩
  change CX _ _ _ _ [(19, (.int .i64 (((i) : Nat) : Int))), (18, (.int .i64 (((n) : Nat) : Int))), (17, (.slice A n c)), (8, (.int .u64 (((v) : Nat) : Int))), (7, (.bool true))] _
  replace hH : HH w0 (bks ([bl g 43 #[.slice A b.length c]])) [[bl g 43 #[(.slice A1 ((b.drop n).length) c2)]]] w := hH
  replace hi : i ≤ n := hi
  replace hv : v = beN ((b.take n).take i) := hv
  refine cxSeq ?_
  refine cxReg ?_
  refine pxV (v := (.bool (decide (i < n)))) (fun _ _ hF => opLss rfl (hF.ev 0 rfl) (hF.ev 1 rfl) (dc (by omega))) rfl (fun _ _ => rfl) (kA rfl) (by decide) ?_
  refine pxEnd ?_
  refine qxThen ?_
  refine cxSeq ?_
  refine cxP 0 rfl rfl (fun hc6 => ?_) (fun hc6 => ?_)
  · refine cxSkip ?_
    refine qxThen ?_
    refine cxSeq ?_
    refine cxBlock ?_
    refine cxSeq ?_
    have hb : v < 72057594037927936 := hv ▸ beN_small (by omega) (by omega)
    refine cxReg ?_
    have hi7 : i < n := by omega
    obtain ⟨b8, off9, rfl, hL10, hb11, hR12⟩ := hR.blk (by decide) hA (by omega)
    have := hR.cap
    have hj15 : i < (b.take n).length := by rw [hlt]; omega
    obtain ⟨x13, hx14⟩ := get_at (b.take n) i hj15
    have hb16 := UInt8.toNat_lt x13
    refine pxV (v := (.pointer (some ⟨b8, off9 + 0 * 1 + i * 1, none⟩))) (fun _ _ hF => opIndex (i := i) (e := 5) (sz := 1) rfl (by kernel_rfl) (by kernel_rfl) (hF.ev 3 rfl) (hF.ev 1 rfl) rfl hi7) rfl (fun _ _ => rfl) (kM [false, true, true, true, true, true] rfl rfl) (by decide) ?_
    refine pxS (v := (.int .u8 (((x13.toNat) : Nat) : Int))) (fun w => HoldsL cByte w b8 off9 b) (hH.holdsL hL10 hb11 hR12) (fun _ _ hF hS => opLoadT (C := cByte) (y := x13) rfl (hF.ev 0 rfl) (by kernel_rfl) ((hS.cut 0 n) i _ hx14) rfl) rfl (fun _ _ => rfl) (kM [false, true, true, true, true, true] rfl rfl) (by decide) ?_
    refine pxV (v := (.int .u8 (((x13.toNat) : Nat) : Int))) (fun _ _ hF => opAssign rfl (hF.ev 0 rfl)) rfl (fun _ _ => rfl) (kM [false, true, true, true, true, true] rfl rfl) (by decide) ?_
    refine pxEnd ?_
    refine qxThen ?_
    refine cxReg ?_
    refine pxV (v := (.int .u64 (((v) : Nat) : Int))) (fun _ _ hF => opMove rfl (hF.ev 4 rfl)) rfl (fun _ _ => rfl) (kM [true, true, true, true, false, true] rfl rfl) (by decide) ?_
    refine pxV (v := (.int .u64 (((v * 256) : Nat) : Int))) (fun _ _ hF => opShlU (n := 8) (z := (v * 256)) rfl rfl (hF.ev 0 rfl) rfl (leb rfl) (by show (v * 2 ^ 8) % 18446744073709551616 = _; omega)) rfl (fun _ _ => rfl) (kM [false, true, true, true, true, true] rfl rfl) (by decide) ?_
    refine pxV (v := (.int .u8 (((x13.toNat) : Nat) : Int))) (fun _ _ hF => opMove rfl (hF.ev 1 rfl)) rfl (fun _ _ => rfl) (kM [true, false, true, true, true, true] rfl rfl) (by decide) ?_
    refine pxV (v := (.int .u64 (((x13.toNat) : Nat) : Int))) (fun _ _ hF => opConvU (k' := .u64) rfl rfl (by kernel_rfl) (by kernel_rfl) (hF.ev 0 rfl) (Nat.mod_eq_of_lt (by show _ < 18446744073709551616; omega))) rfl (fun _ _ => rfl) (kM [false, true, true, true, true, true] rfl rfl) (by decide) ?_
    refine pxV (v := (.int .u64 (((v * 256 + x13.toNat) : Nat) : Int))) (fun _ _ hF => opOrU (m := v * 256) (j := x13.toNat) (z := (v * 256 + x13.toNat)) rfl rfl (hF.ev 1 rfl) (hF.ev 0 rfl) (by show _ < 18446744073709551616; omega) (by show _ < 18446744073709551616; omega) (or_add (by omega))) rfl (fun _ _ => rfl) (kM [false, false, true, true, true, true] rfl rfl) (by decide) ?_
    refine pxV (v := (.int .u64 (((v * 256 + x13.toNat) : Nat) : Int))) (fun _ _ hF => opAssign rfl (hF.ev 0 rfl)) rfl (fun _ _ => rfl) (kM [false, true, true, true, true] rfl rfl) (by decide) ?_
    refine pxEnd ?_
    refine qxInN ?_
    refine qxThen ?_
    refine cxReg ?_
    refine pxV (v := (.int .i64 (((i + 1) : Nat) : Int))) (fun _ _ hF => opAdd rfl (hF.ev 1 rfl) rfl (wI (by omega) (by omega) (by omega))) rfl (fun _ _ => rfl) (kM [true, false, true, true, true] rfl rfl) (by decide) ?_
    refine pxV (v := (.int .i64 (((i + 1) : Nat) : Int))) (fun _ _ hF => opMove rfl (hF.ev 0 rfl)) rfl (fun _ _ => rfl) (kM [false, true, true, true, true] rfl rfl) (by decide) ?_
    refine pxEnd ?_
    exact qxRound (i + 1, v * 256 + x13.toNat) ⟨hH, (show (i + 1) ≤ n from (by omega)), (by rw [hv, beN_take hx14])⟩ (by omega) (slots_at [0, 2, 3, 1, 4] rfl)
  · refine cxExit ?_
    refine qxThenE ?_
    refine qxThenE ?_
    refine qxInE ?_
    refine qxThen ?_
    refine cxSeq ?_
    refine cxReg ?_
    refine pxV (v := (.int .u64 (((v) : Nat) : Int))) (fun _ _ hF => opMove rfl (hF.ev 4 rfl)) rfl (fun _ _ => rfl) (kM [false, false, false, false, false, true] rfl rfl) (by decide) ?_
    refine pxV (v := (.bool true)) (fun _ _ hF => opMove rfl (hF.ev 1 rfl)) rfl (fun _ _ => rfl) (kM [true, false] rfl rfl) (by decide) ?_
    refine pxV (v := (.int .u64 (((v) : Nat) : Int))) (fun _ _ hF => opAssign rfl (hF.ev 1 rfl)) rfl (fun _ _ => rfl) (kM [true, false] rfl rfl) (by decide) ?_
    refine pxV (v := (.bool true)) (fun _ _ hF => opAssign rfl (hF.ev 1 rfl)) rfl (fun _ _ => rfl) (kM [true, false] rfl rfl) (by decide) ?_
    refine pxEnd ?_
    refine qxThen ?_
    refine cxRet ?_
    refine qxRet2 1 0 rfl rfl rfl ?_
    have he : v = x := by rw [hv, List.take_of_length_le (by omega)]; exact hx
    exact ⟨_, _, rfl, ⟨by rw [he], _, _, rfl, hS3⟩, hH.out1 [true] rfl⟩

set_option maxHeartbeats 8000000 in
theorem number_no (g c : Nat) (A : Option Addr) (b : List UInt8) (hA : Off A b.length [g]) (n : Nat) (hn : b.length < n) : Does Try.prog 23 #[(.pointer (some ⟨g, 0, none⟩)), (.int .i64 (((n) : Nat) : Int))] [bl g 43 #[.slice A b.length c]] (fun w => Vu cByte w A b.length c b) (fun v E' => v = .tuple #[.int .u64 0, .bool false] ∧ ∃ A' c', E' = [bl g 43 #[.slice A' b.length c']] ∧ Sfx A c b A' c' b) := by
  refine does_of (fn := Try.f23) Try.func23 rfl Try.ntmps23 (Nat.le_of_ble_eq_true rfl) rfl ?_
  intro w0 hH hR
  have hcap := hR.cap
  refine cxSeq ?_
  refine cxReg ?_
  refine pxV (v := (.int .u64 0)) (fun _ _ hF => opAssign rfl rfl) rfl (fun _ _ => rfl) (kA rfl) (by decide) ?_
  refine pxV (v := (.bool false)) (fun _ _ hF => opAssign rfl rfl) rfl (fun _ _ => rfl) (kM [false, true, true] rfl rfl) (by decide) ?_
  refine pxEnd ?_
  refine qxThen ?_
  refine cxSeq ?_
  refine cxReg ?_
  refine pxV (v := (.pointer (some ⟨g, 0, none⟩))) (fun _ _ hF => opMove rfl (hF.ev 1 rfl)) rfl (fun _ _ => rfl) (kM [false, false, true] rfl rfl) (by decide) ?_
  refine pxV (v := (.int .i64 (((n) : Nat) : Int))) (fun _ _ hF => opMove rfl (hF.ev 1 rfl)) rfl (fun _ _ => rfl) (kM [true, false] rfl rfl) (by decide) ?_
  refine pxE 0 hH rfl (fun _ hF => Does.small (take_no g c A b n hn) (fun w => opCall rfl Try.func27 rfl rfl (Evs.cons (v := (.pointer (some ⟨g, 0, none⟩))) (hF.ev 1 rfl) (Evs.cons (v := (.int .i64 (((n) : Nat) : Int))) (hF.ev 0 rfl) Evs.nil)) w)) (hH.vu hR (by decide) hA) rfl (fun _ _ => rfl) (kM [false, false] rfl rfl) (by decide) ?_
  clear hH
  rintro _ _ w ⟨rfl, A1, c2, rfl, hS3⟩ hH
  obtain ⟨hV4, hQ5⟩ := hS3 w0 hR
  replace hV4 : Vu cByte w0 A1 b.length c2 b := hV4
  replace hQ5 := hQ5 _ hA
  replace hH : HH w0 (bks ([bl g 43 #[.slice A b.length c]])) [[bl g 43 #[(.slice A1 b.length c2)]]] w := hH
  refine pxV (v := (.tuple #[(.slice none 0 0), (.bool false)])) (fun _ _ hF => opMove rfl (hF.ev 0 rfl)) rfl (fun _ _ => rfl) (kM [false] rfl rfl) (by decide) ?_
  refine pxV (v := (.slice none 0 0)) (fun _ _ hF => opExtract rfl (hF.ev 0 rfl) rfl) rfl (fun _ _ => rfl) (kA rfl) (by decide) ?_
  refine pxV (v := (.bool false)) (fun _ _ hF => opExtract rfl (hF.ev 1 rfl) rfl) rfl (fun _ _ => rfl) (kM [true, false] rfl rfl) (by decide) ?_
  refine pxV (v := (.slice none 0 0)) (fun _ _ hF => opAssign rfl (hF.ev 1 rfl)) rfl (fun _ _ => rfl) (kM [true, false] rfl rfl) (by decide) ?_
  refine pxV (v := (.bool false)) (fun _ _ hF => opAssign rfl (hF.ev 1 rfl)) rfl (fun _ _ => rfl) (kM [true, false] rfl rfl) (by decide) ?_
  refine pxEnd ?_
  refine qxThen ?_
  refine cxSeq ?_
  refine cxReg ?_
  refine pxV (v := (.int .u64 0)) (fun _ _ hF => opAssign rfl rfl) rfl (fun _ _ => rfl) (kA rfl) (by decide) ?_
  refine pxEnd ?_
  refine qxThen ?_
  refine cxSeq ?_
  refine cxSeq ?_
  refine cxReg ?_
  refine pxV (v := (.slice none 0 0)) (fun _ _ hF => opMove rfl (hF.ev 2 rfl)) rfl (fun _ _ => rfl) (kM [true, true, false] rfl rfl) (by decide) ?_
  refine pxV (v := (.int .i64 0)) (fun _ _ hF => opLen (e := 5) rfl (by kernel_rfl) (hF.ev 0 rfl)) rfl (fun _ _ => rfl) (kA rfl) (by decide) ?_
  refine pxV (v := (.int .i64 0)) (fun _ _ hF => opMove rfl rfl) rfl (fun _ _ => rfl) (kA rfl) (by decide) ?_
  refine pxEnd ?_
  refine qxThen ?_
  refine cxBlock ?_
  refine cxLoop (σ := Nat) (fun x => [(19, (.int .i64 (((x) : Nat) : Int))), (18, (.int .i64 0)), (17, (.slice none 0 0)), (8, (.int .u64 0)), (7, (.bool false))]) (fun x w => HH w0 (bks ([bl g 43 #[.slice A b.length c]])) [[bl g 43 #[(.slice A1 b.length c2)]]] w ∧ (x = 0)) (fun x => 0) 0 ⟨hH, rfl⟩ (slots_at [0, 1, 2, 3, 4] rfl) ?_
  clear hH
  rintro i w ⟨hH, hi⟩
  change CX _ _ _ _ [(19, (.int .i64 (((i) : Nat) : Int))), (18, (.int .i64 0)), (17, (.slice none 0 0)), (8, (.int .u64 0)), (7, (.bool false))] _
  replace hH : HH w0 (bks ([bl g 43 #[.slice A b.length c]])) [[bl g 43 #[(.slice A1 b.length c2)]]] w := hH
  replace hi : i = 0 := hi
  refine cxSeq ?_
  refine cxReg ?_
  refine pxV (v := (.bool false)) (fun _ _ hF => opLss rfl (hF.ev 0 rfl) (hF.ev 1 rfl) (decide_eq_false (by omega))) rfl (fun _ _ => rfl) (kA rfl) (by decide) ?_
  refine pxEnd ?_
  refine qxThen ?_
  refine cxSeq ?_
  refine cxF 0 rfl rfl ?_
  refine cxExit ?_
  refine qxThenE ?_
  refine qxThenE ?_
  refine qxInE ?_
  refine qxThen ?_
  refine cxSeq ?_
  refine cxReg ?_
  refine pxV (v := (.int .u64 0)) (fun _ _ hF => opMove rfl (hF.ev 4 rfl)) rfl (fun _ _ => rfl) (kM [false, false, false, false, false, true] rfl rfl) (by decide) ?_
  refine pxV (v := (.bool false)) (fun _ _ hF => opMove rfl (hF.ev 1 rfl)) rfl (fun _ _ => rfl) (kM [true, false] rfl rfl) (by decide) ?_
  refine pxV (v := (.int .u64 0)) (fun _ _ hF => opAssign rfl (hF.ev 1 rfl)) rfl (fun _ _ => rfl) (kM [true, false] rfl rfl) (by decide) ?_
  refine pxV (v := (.bool false)) (fun _ _ hF => opAssign rfl (hF.ev 1 rfl)) rfl (fun _ _ => rfl) (kM [true, false] rfl rfl) (by decide) ?_
  refine pxEnd ?_
  refine qxThen ?_
  refine cxRet ?_
  refine qxRet2 1 0 rfl rfl rfl ?_
  exact ⟨_, _, rfl, ⟨rfl, _, _, rfl, hS3⟩, hH.out1 [true] rfl⟩

set_option maxHeartbeats 8000000 in
theorem len_c (g c : Nat) (A : Option Addr) (b : List UInt8) (hA : Off A b.length [g]) : Does Try.prog 32 #[(.pointer (some ⟨g, 0, none⟩))] [bl g 43 #[.slice A b.length c]] (fun w => Vu cByte w A b.length c b) (fun v E' => ∃ (x : Nat) (p ok : Bool), v = .tuple #[.int .u64 (x : Int), .bool p, .bool ok] ∧ ∃ A' c' b', E' = [bl g 43 #[.slice A' b'.length c']] ∧ Sfx A c b A' c' b' ∧ ((ok = true ∧ x = (tkn b).1 ∧ p = (tkn b).2.2 ∧ (tkn b).2.1 ≠ 0 ∧ b' = b.drop (tkn b).2.1) ∨ (ok = false ∧ (tkn b).2.1 = 0))) := by
  refine does_of (fn := Try.f32) Try.func32 rfl Try.ntmps32 (Nat.le_of_ble_eq_true rfl) rfl ?_
  intro w0 hH hR
  have hcap := hR.cap
  have hc0 := getD_toNat_lt b 0; have hc1 := getD_toNat_lt b 1
  refine cxSeq ?_
  refine cxReg ?_
  refine pxV (v := (.int .u64 0)) (fun _ _ hF => opAssign rfl rfl) rfl (fun _ _ => rfl) (kA rfl) (by decide) ?_
  refine pxV (v := (.bool false)) (fun _ _ hF => opAssign rfl rfl) rfl (fun _ _ => rfl) (kM [false, true] rfl rfl) (by decide) ?_
  refine pxV (v := (.bool false)) (fun _ _ hF => opAssign rfl rfl) rfl (fun _ _ => rfl) (kM [false, true] rfl rfl) (by decide) ?_
  refine pxEnd ?_
  refine qxThen ?_
  refine cxSeq ?_
  rcases Nat.lt_or_ge b.length 1 with hn1 | hn1
  · refine cxReg ?_
    refine pxV (v := (.pointer (some ⟨g, 0, none⟩))) (fun _ _ hF => opMove rfl (hF.ev 1 rfl)) rfl (fun _ _ => rfl) (kM [false, true] rfl rfl) (by decide) ?_
    refine pxE 0 hH rfl (fun _ hF => Does.small (number_no g c A b hA 1 hn1) (fun w => opCall rfl Try.func23 rfl rfl (Evs.cons (v := (.pointer (some ⟨g, 0, none⟩))) (hF.ev 0 rfl) (Evs.cons (v := (.int .i64 1)) rfl Evs.nil)) w)) (hH.vu hR (by decide) hA) rfl (fun _ _ => rfl) (kM [false, true] rfl rfl) (by decide) ?_
    clear hH
    rintro _ _ w ⟨rfl, A2, c3, rfl, hS4⟩ hH
    obtain ⟨hV5, hQ6⟩ := hS4 w0 hR
    replace hV5 : Vu cByte w0 A2 b.length c3 b := hV5
    replace hQ6 := hQ6 _ hA
    replace hH : HH w0 (bks ([bl g 43 #[.slice A b.length c]])) [[bl g 43 #[(.slice A2 b.length c3)]]] w := hH
    refine pxV (v := (.tuple #[(.int .u64 0), (.bool false)])) (fun _ _ hF => opMove rfl (hF.ev 0 rfl)) rfl (fun _ _ => rfl) (kM [false, true] rfl rfl) (by decide) ?_
    refine pxV (v := (.int .u64 0)) (fun _ _ hF => opExtract rfl (hF.ev 0 rfl) rfl) rfl (fun _ _ => rfl) (kA rfl) (by decide) ?_
    refine pxV (v := (.bool false)) (fun _ _ hF => opExtract rfl (hF.ev 1 rfl) rfl) rfl (fun _ _ => rfl) (kM [true, false, true] rfl rfl) (by decide) ?_
    refine pxV (v := (.int .u64 0)) (fun _ _ hF => opAssign rfl (hF.ev 1 rfl)) rfl (fun _ _ => rfl) (kM [true, false, true] rfl rfl) (by decide) ?_
    refine pxV (v := (.bool false)) (fun _ _ hF => opAssign rfl (hF.ev 1 rfl)) rfl (fun _ _ => rfl) (kM [true, false, true] rfl rfl) (by decide) ?_
    refine pxEnd ?_
    refine qxThen ?_
    refine cxSeq ?_
    refine cxBlock ?_
    refine cxSeq ?_
    refine cxReg ?_
    refine pxV (v := (.int .u64 0)) (fun _ _ hF => opMove rfl (hF.ev 1 rfl)) rfl (fun _ _ => rfl) (kA rfl) (by decide) ?_
    refine pxV (v := (.bool true)) (fun _ _ hF => opLss rfl (hF.ev 0 rfl) rfl (by decide)) rfl (fun _ _ => rfl) (kM [false, true, true, true] rfl rfl) (by decide) ?_
    refine pxV (v := (.bool true)) (fun _ _ hF => opAssign rfl (hF.ev 0 rfl)) rfl (fun _ _ => rfl) (kM [false, true, true, true] rfl rfl) (by decide) ?_
    refine pxEnd ?_
    refine qxThen ?_
    refine cxT 0 rfl rfl ?_
    refine cxSeq ?_
    refine cxReg ?_
    refine pxV (v := (.int .u64 0)) (fun _ _ hF => opMove rfl (hF.ev 2 rfl)) rfl (fun _ _ => rfl) (kM [false, true, false, false] rfl rfl) (by decide) ?_
    refine pxV (v := (.bool false)) (fun _ _ hF => opMove rfl (hF.ev 1 rfl)) rfl (fun _ _ => rfl) (kM [true, false] rfl rfl) (by decide) ?_
    refine pxV (v := (.int .u64 0)) (fun _ _ hF => opAssign rfl (hF.ev 1 rfl)) rfl (fun _ _ => rfl) (kM [true, false] rfl rfl) (by decide) ?_
    refine pxV (v := (.bool false)) (fun _ _ hF => opAssign rfl rfl) rfl (fun _ _ => rfl) (kA rfl) (by decide) ?_
    refine pxV (v := (.bool false)) (fun _ _ hF => opAssign rfl (hF.ev 2 rfl)) rfl (fun _ _ => rfl) (kM [true, true, false] rfl rfl) (by decide) ?_
    refine pxEnd ?_
    refine qxThen ?_
    refine cxRet ?_
    refine qxInR ?_
    refine qxThenR ?_
    refine qxRet3 2 1 0 rfl rfl rfl rfl ?_
    have he : tkn b = (0, 0, false) := by unfold tkn; rw [if_pos (by omega)]
    exact ⟨_, _, rfl, ⟨_, _, _, rfl, _, _, _, rfl, hS4, .inr ⟨rfl, by rw [he]⟩⟩, hH.out1 [true] rfl⟩
  · refine cxReg ?_
    refine pxV (v := (.pointer (some ⟨g, 0, none⟩))) (fun _ _ hF => opMove rfl (hF.ev 1 rfl)) rfl (fun _ _ => rfl) (kM [false, true] rfl rfl) (by decide) ?_
    refine pxE 0 hH rfl (fun _ hF => Does.small (number_ok g c A b hA 1 hn1 (leb rfl) ((b.getD 0 0).toNat) (beN_take1 hn1)) (fun w => opCall rfl Try.func23 rfl rfl (Evs.cons (v := (.pointer (some ⟨g, 0, none⟩))) (hF.ev 0 rfl) (Evs.cons (v := (.int .i64 1)) rfl Evs.nil)) w)) (hH.vu hR (by decide) hA) rfl (fun _ _ => rfl) (kM [false, true] rfl rfl) (by decide) ?_
    clear hH
    rintro _ _ w ⟨rfl, A7, c8, rfl, hS9⟩ hH
    obtain ⟨hV10, hQ11⟩ := hS9 w0 hR
    replace hV10 : Vu cByte w0 A7 (b.drop 1).length c8 (b.drop 1) := hV10
    replace hQ11 := hQ11 _ hA
    replace hH : HH w0 (bks ([bl g 43 #[.slice A b.length c]])) [[bl g 43 #[(.slice A7 ((b.drop 1).length) c8)]]] w := hH
    refine pxV (v := (.tuple #[(.int .u64 ((((b.getD 0 0).toNat) : Nat) : Int)), (.bool true)])) (fun _ _ hF => opMove rfl (hF.ev 0 rfl)) rfl (fun _ _ => rfl) (kM [false, true] rfl rfl) (by decide) ?_
    refine pxV (v := (.int .u64 ((((b.getD 0 0).toNat) : Nat) : Int))) (fun _ _ hF => opExtract rfl (hF.ev 0 rfl) rfl) rfl (fun _ _ => rfl) (kA rfl) (by decide) ?_
    refine pxV (v := (.bool true)) (fun _ _ hF => opExtract rfl (hF.ev 1 rfl) rfl) rfl (fun _ _ => rfl) (kM [true, false, true] rfl rfl) (by decide) ?_
    refine pxV (v := (.int .u64 ((((b.getD 0 0).toNat) : Nat) : Int))) (fun _ _ hF => opAssign rfl (hF.ev 1 rfl)) rfl (fun _ _ => rfl) (kM [true, false, true] rfl rfl) (by decide) ?_
    refine pxV (v := (.bool true)) (fun _ _ hF => opAssign rfl (hF.ev 1 rfl)) rfl (fun _ _ => rfl) (kM [true, false, true] rfl rfl) (by decide) ?_
    refine pxEnd ?_
    refine qxThen ?_
    refine cxSeq ?_
    refine cxBlock ?_
    refine cxSeq ?_
    refine cxReg ?_
    refine pxV (v := (.int .u64 ((((b.getD 0 0).toNat) : Nat) : Int))) (fun _ _ hF => opMove rfl (hF.ev 1 rfl)) rfl (fun _ _ => rfl) (kA rfl) (by decide) ?_
    refine pxV (v := (.bool (decide ((b.getD 0 0).toNat < 192)))) (fun _ _ hF => opLss rfl (hF.ev 0 rfl) rfl (dc (by omega))) rfl (fun _ _ => rfl) (kM [false, true, true, true] rfl rfl) (by decide) ?_
    refine pxV (v := (.bool (decide ((b.getD 0 0).toNat < 192)))) (fun _ _ hF => opAssign rfl (hF.ev 0 rfl)) rfl (fun _ _ => rfl) (kM [false, true, true, true] rfl rfl) (by decide) ?_
    refine pxEnd ?_
    refine qxThen ?_
    refine cxP 0 rfl rfl (fun hc12 => ?_) (fun hc12 => ?_)
    · refine cxSeq ?_
      refine cxReg ?_
      refine pxV (v := (.int .u64 ((((b.getD 0 0).toNat) : Nat) : Int))) (fun _ _ hF => opMove rfl (hF.ev 2 rfl)) rfl (fun _ _ => rfl) (kM [false, true, false, false] rfl rfl) (by decide) ?_
      refine pxV (v := (.bool true)) (fun _ _ hF => opMove rfl (hF.ev 1 rfl)) rfl (fun _ _ => rfl) (kM [true, false] rfl rfl) (by decide) ?_
      refine pxV (v := (.int .u64 ((((b.getD 0 0).toNat) : Nat) : Int))) (fun _ _ hF => opAssign rfl (hF.ev 1 rfl)) rfl (fun _ _ => rfl) (kM [true, false] rfl rfl) (by decide) ?_
      refine pxV (v := (.bool false)) (fun _ _ hF => opAssign rfl rfl) rfl (fun _ _ => rfl) (kA rfl) (by decide) ?_
      refine pxV (v := (.bool true)) (fun _ _ hF => opAssign rfl (hF.ev 2 rfl)) rfl (fun _ _ => rfl) (kM [true, true, false] rfl rfl) (by decide) ?_
      refine pxEnd ?_
      refine qxThen ?_
      refine cxRet ?_
      refine qxInR ?_
      refine qxThenR ?_
      refine qxRet3 2 1 0 rfl rfl rfl rfl ?_
      have he : tkn b = ((b.getD 0 0).toNat, 1, false) := by unfold tkn; rw [if_neg (by omega), if_pos hc12]
      exact ⟨_, _, rfl, ⟨_, _, _, rfl, _, _, _, rfl, hS9, .inl ⟨rfl, by rw [he], by rw [he], by rw [he]; show 1 ≠ 0; decide, by rw [he]; first | done | rfl⟩⟩, hH.out1 [true] rfl⟩
    · refine cxSeq ?_
      refine cxReg ?_
      refine pxV (v := (.int .u64 ((((b.getD 0 0).toNat) : Nat) : Int))) (fun _ _ hF => opMove rfl (hF.ev 2 rfl)) rfl (fun _ _ => rfl) (kM [false, false, true, true] rfl rfl) (by decide) ?_
      refine pxV (v := (.bool (decide ((b.getD 0 0).toNat < 224)))) (fun _ _ hF => opLss rfl (hF.ev 0 rfl) rfl (dc (by omega))) rfl (fun _ _ => rfl) (kM [false, true, true] rfl rfl) (by decide) ?_
      refine pxV (v := (.bool (decide ((b.getD 0 0).toNat < 224)))) (fun _ _ hF => opAssign rfl (hF.ev 0 rfl)) rfl (fun _ _ => rfl) (kM [false, true, true] rfl rfl) (by decide) ?_
      refine pxEnd ?_
      refine qxThen ?_
      refine cxP 0 rfl rfl (fun hc13 => ?_) (fun hc13 => ?_)
      · refine cxSeq ?_
        rcases Nat.lt_or_ge (b.drop 1).length 1 with hn14 | hn14
        · refine cxReg ?_
          refine pxV (v := (.pointer (some ⟨g, 0, none⟩))) (fun _ _ hF => opMove rfl (hF.ev 2 rfl)) rfl (fun _ _ => rfl) (kM [false, true, false] rfl rfl) (by decide) ?_
          refine pxE 0 hH rfl (fun _ hF => Does.small (number_no g c8 A7 (b.drop 1) hQ11 1 hn14) (fun w => opCall rfl Try.func23 rfl rfl (Evs.cons (v := (.pointer (some ⟨g, 0, none⟩))) (hF.ev 0 rfl) (Evs.cons (v := (.int .i64 1)) rfl Evs.nil)) w)) (hH.vu hV10 (by decide) hQ11) rfl (fun _ _ => rfl) (kM [false, true] rfl rfl) (by decide) ?_
          clear hH
          rintro _ _ w ⟨rfl, A15, c16, rfl, hS17⟩ hH
          obtain ⟨hV18, hQ19⟩ := hS17 w0 hV10
          replace hV18 : Vu cByte w0 A15 (b.drop 1).length c16 (b.drop 1) := hV18
          replace hQ19 := hQ19 _ hQ11
          replace hH : HH w0 (bks ([bl g 43 #[.slice A b.length c]])) [[bl g 43 #[(.slice A15 ((b.drop 1).length) c16)]]] w := hH
          refine pxV (v := (.tuple #[(.int .u64 0), (.bool false)])) (fun _ _ hF => opMove rfl (hF.ev 0 rfl)) rfl (fun _ _ => rfl) (kM [false, true] rfl rfl) (by decide) ?_
          refine pxV (v := (.int .u64 0)) (fun _ _ hF => opExtract rfl (hF.ev 0 rfl) rfl) rfl (fun _ _ => rfl) (kA rfl) (by decide) ?_
          refine pxV (v := (.bool false)) (fun _ _ hF => opExtract rfl (hF.ev 1 rfl) rfl) rfl (fun _ _ => rfl) (kM [true, false, true] rfl rfl) (by decide) ?_
          refine pxV (v := (.int .u64 0)) (fun _ _ hF => opAssign rfl (hF.ev 1 rfl)) rfl (fun _ _ => rfl) (kM [true, false, true] rfl rfl) (by decide) ?_
          refine pxV (v := (.bool false)) (fun _ _ hF => opAssign rfl (hF.ev 1 rfl)) rfl (fun _ _ => rfl) (kM [true, false, true] rfl rfl) (by decide) ?_
          refine pxEnd ?_
          refine qxThen ?_
          refine cxSeq ?_
          refine cxReg ?_
          refine pxV (v := (.int .u64 ((((b.getD 0 0).toNat) : Nat) : Int))) (fun _ _ hF => opMove rfl (hF.ev 2 rfl)) rfl (fun _ _ => rfl) (kM [true, true, false] rfl rfl) (by decide) ?_
          refine pxV (v := (.int .u64 (((((b.getD 0 0).toNat) - 192) : Nat) : Int))) (fun _ _ hF => opSubU (m := (b.getD 0 0).toNat) (j := 192) (z := (((b.getD 0 0).toNat) - 192)) rfl rfl (hF.ev 0 rfl) rfl (by show 192 ≤ 18446744073709551616; omega) (by show ((b.getD 0 0).toNat + (18446744073709551616 - 192)) % 18446744073709551616 = _; omega)) rfl (fun _ _ => rfl) (kM [false, true, true] rfl rfl) (by decide) ?_
          refine pxV (v := (.int .u64 (((((b.getD 0 0).toNat - 192) * 256) : Nat) : Int))) (fun _ _ hF => opShlU (n := 8) (z := (((b.getD 0 0).toNat - 192) * 256)) rfl rfl (hF.ev 0 rfl) rfl (leb rfl) (by show (((b.getD 0 0).toNat - 192) * 2 ^ 8) % 18446744073709551616 = _; omega)) rfl (fun _ _ => rfl) (kM [false, true, true] rfl rfl) (by decide) ?_
          refine pxV (v := (.int .u64 0)) (fun _ _ hF => opMove rfl (hF.ev 2 rfl)) rfl (fun _ _ => rfl) (kM [true, true, false] rfl rfl) (by decide) ?_
          refine pxV (v := (.int .u64 (((((b.getD 0 0).toNat - 192) * 256) : Nat) : Int))) (fun _ _ hF => opAddU (m := ((b.getD 0 0).toNat - 192) * 256) (j := 0) (z := (((b.getD 0 0).toNat - 192) * 256)) rfl rfl (hF.ev 1 rfl) (hF.ev 0 rfl) (Nat.mod_eq_of_lt (by show _ < 18446744073709551616; omega))) rfl (fun _ _ => rfl) (kM [false, false, true] rfl rfl) (by decide) ?_
          refine pxV (v := (.int .u64 (((((b.getD 0 0).toNat - 192) * 256 + 192) : Nat) : Int))) (fun _ _ hF => opAddU (m := ((b.getD 0 0).toNat - 192) * 256) (j := 192) (z := (((b.getD 0 0).toNat - 192) * 256 + 192)) rfl rfl (hF.ev 0 rfl) rfl (Nat.mod_eq_of_lt (by show _ < 18446744073709551616; omega))) rfl (fun _ _ => rfl) (kM [false, true] rfl rfl) (by decide) ?_
          refine pxV (v := (.bool false)) (fun _ _ hF => opMove rfl (hF.ev 1 rfl)) rfl (fun _ _ => rfl) (kM [true, false] rfl rfl) (by decide) ?_
          refine pxV (v := (.int .u64 (((((b.getD 0 0).toNat - 192) * 256 + 192) : Nat) : Int))) (fun _ _ hF => opAssign rfl (hF.ev 1 rfl)) rfl (fun _ _ => rfl) (kM [true, false] rfl rfl) (by decide) ?_
          refine pxV (v := (.bool false)) (fun _ _ hF => opAssign rfl rfl) rfl (fun _ _ => rfl) (kA rfl) (by decide) ?_
          refine pxV (v := (.bool false)) (fun _ _ hF => opAssign rfl (hF.ev 2 rfl)) rfl (fun _ _ => rfl) (kM [true, true, false] rfl rfl) (by decide) ?_
          refine pxEnd ?_
          refine qxThen ?_
          refine cxRet ?_
          refine qxInR ?_
          refine qxThenR ?_
          refine qxRet3 2 1 0 rfl rfl rfl rfl ?_
          have he : tkn b = (0, 0, false) := by unfold tkn; rw [if_neg (by omega), if_neg hc12, if_pos hc13, if_pos (by rw [List.length_drop] at hn14; omega)]
          exact ⟨_, _, rfl, ⟨_, _, _, rfl, _, _, _, rfl, (hS9.trans hS17), .inr ⟨rfl, by rw [he]⟩⟩, hH.out1 [true] rfl⟩
        · refine cxReg ?_
          refine pxV (v := (.pointer (some ⟨g, 0, none⟩))) (fun _ _ hF => opMove rfl (hF.ev 2 rfl)) rfl (fun _ _ => rfl) (kM [false, true, false] rfl rfl) (by decide) ?_
          refine pxE 0 hH rfl (fun _ hF => Does.small (number_ok g c8 A7 (b.drop 1) hQ11 1 hn14 (leb rfl) ((b.getD 1 0).toNat) (beN_drop1 (by rw [List.length_drop] at hn14; omega))) (fun w => opCall rfl Try.func23 rfl rfl (Evs.cons (v := (.pointer (some ⟨g, 0, none⟩))) (hF.ev 0 rfl) (Evs.cons (v := (.int .i64 1)) rfl Evs.nil)) w)) (hH.vu hV10 (by decide) hQ11) rfl (fun _ _ => rfl) (kM [false, true] rfl rfl) (by decide) ?_
          clear hH
          rintro _ _ w ⟨rfl, A20, c21, rfl, hS22⟩ hH
          obtain ⟨hV23, hQ24⟩ := hS22 w0 hV10
          replace hV23 : Vu cByte w0 A20 ((b.drop 1).drop 1).length c21 ((b.drop 1).drop 1) := hV23
          replace hQ24 := hQ24 _ hQ11
          replace hH : HH w0 (bks ([bl g 43 #[.slice A b.length c]])) [[bl g 43 #[(.slice A20 (((b.drop 1).drop 1).length) c21)]]] w := hH
          refine pxV (v := (.tuple #[(.int .u64 ((((b.getD 1 0).toNat) : Nat) : Int)), (.bool true)])) (fun _ _ hF => opMove rfl (hF.ev 0 rfl)) rfl (fun _ _ => rfl) (kM [false, true] rfl rfl) (by decide) ?_
          refine pxV (v := (.int .u64 ((((b.getD 1 0).toNat) : Nat) : Int))) (fun _ _ hF => opExtract rfl (hF.ev 0 rfl) rfl) rfl (fun _ _ => rfl) (kA rfl) (by decide) ?_
          refine pxV (v := (.bool true)) (fun _ _ hF => opExtract rfl (hF.ev 1 rfl) rfl) rfl (fun _ _ => rfl) (kM [true, false, true] rfl rfl) (by decide) ?_
          refine pxV (v := (.int .u64 ((((b.getD 1 0).toNat) : Nat) : Int))) (fun _ _ hF => opAssign rfl (hF.ev 1 rfl)) rfl (fun _ _ => rfl) (kM [true, false, true] rfl rfl) (by decide) ?_
          refine pxV (v := (.bool true)) (fun _ _ hF => opAssign rfl (hF.ev 1 rfl)) rfl (fun _ _ => rfl) (kM [true, false, true] rfl rfl) (by decide) ?_
          refine pxEnd ?_
          refine qxThen ?_
          refine cxSeq ?_
          refine cxReg ?_
          refine pxV (v := (.int .u64 ((((b.getD 0 0).toNat) : Nat) : Int))) (fun _ _ hF => opMove rfl (hF.ev 2 rfl)) rfl (fun _ _ => rfl) (kM [true, true, false] rfl rfl) (by decide) ?_
          refine pxV (v := (.int .u64 (((((b.getD 0 0).toNat) - 192) : Nat) : Int))) (fun _ _ hF => opSubU (m := (b.getD 0 0).toNat) (j := 192) (z := (((b.getD 0 0).toNat) - 192)) rfl rfl (hF.ev 0 rfl) rfl (by show 192 ≤ 18446744073709551616; omega) (by show ((b.getD 0 0).toNat + (18446744073709551616 - 192)) % 18446744073709551616 = _; omega)) rfl (fun _ _ => rfl) (kM [false, true, true] rfl rfl) (by decide) ?_
          refine pxV (v := (.int .u64 (((((b.getD 0 0).toNat - 192) * 256) : Nat) : Int))) (fun _ _ hF => opShlU (n := 8) (z := (((b.getD 0 0).toNat - 192) * 256)) rfl rfl (hF.ev 0 rfl) rfl (leb rfl) (by show (((b.getD 0 0).toNat - 192) * 2 ^ 8) % 18446744073709551616 = _; omega)) rfl (fun _ _ => rfl) (kM [false, true, true] rfl rfl) (by decide) ?_
          refine pxV (v := (.int .u64 ((((b.getD 1 0).toNat) : Nat) : Int))) (fun _ _ hF => opMove rfl (hF.ev 2 rfl)) rfl (fun _ _ => rfl) (kM [true, true, false] rfl rfl) (by decide) ?_
          refine pxV (v := (.int .u64 (((((b.getD 0 0).toNat - 192) * 256 + (b.getD 1 0).toNat) : Nat) : Int))) (fun _ _ hF => opAddU (m := ((b.getD 0 0).toNat - 192) * 256) (j := (b.getD 1 0).toNat) (z := (((b.getD 0 0).toNat - 192) * 256 + (b.getD 1 0).toNat)) rfl rfl (hF.ev 1 rfl) (hF.ev 0 rfl) (Nat.mod_eq_of_lt (by show _ < 18446744073709551616; omega))) rfl (fun _ _ => rfl) (kM [false, false, true] rfl rfl) (by decide) ?_
          refine pxV (v := (.int .u64 (((((b.getD 0 0).toNat - 192) * 256 + (b.getD 1 0).toNat + 192) : Nat) : Int))) (fun _ _ hF => opAddU (m := ((b.getD 0 0).toNat - 192) * 256 + (b.getD 1 0).toNat) (j := 192) (z := (((b.getD 0 0).toNat - 192) * 256 + (b.getD 1 0).toNat + 192)) rfl rfl (hF.ev 0 rfl) rfl (Nat.mod_eq_of_lt (by show _ < 18446744073709551616; omega))) rfl (fun _ _ => rfl) (kM [false, true] rfl rfl) (by decide) ?_
          refine pxV (v := (.bool true)) (fun _ _ hF => opMove rfl (hF.ev 1 rfl)) rfl (fun _ _ => rfl) (kM [true, false] rfl rfl) (by decide) ?_
          refine pxV (v := (.int .u64 (((((b.getD 0 0).toNat - 192) * 256 + (b.getD 1 0).toNat + 192) : Nat) : Int))) (fun _ _ hF => opAssign rfl (hF.ev 1 rfl)) rfl (fun _ _ => rfl) (kM [true, false] rfl rfl) (by decide) ?_
          refine pxV (v := (.bool false)) (fun _ _ hF => opAssign rfl rfl) rfl (fun _ _ => rfl) (kA rfl) (by decide) ?_
          refine pxV (v := (.bool true)) (fun _ _ hF => opAssign rfl (hF.ev 2 rfl)) rfl (fun _ _ => rfl) (kM [true, true, false] rfl rfl) (by decide) ?_
          refine pxEnd ?_
          refine qxThen ?_
          refine cxRet ?_
          refine qxInR ?_
          refine qxThenR ?_
          refine qxRet3 2 1 0 rfl rfl rfl rfl ?_
          have he : tkn b = (((b.getD 0 0).toNat - 192) * 256 + (b.getD 1 0).toNat + 192, 2, false) := by unfold tkn; rw [if_neg (by omega), if_neg hc12, if_pos hc13, if_neg (by rw [List.length_drop] at hn14; omega)]
          exact ⟨_, _, rfl, ⟨_, _, _, rfl, _, _, _, rfl, (hS9.trans hS22), .inl ⟨rfl, by rw [he], by rw [he], by rw [he]; show 2 ≠ 0; decide, by rw [he]; exact List.drop_drop ..⟩⟩, hH.out1 [true] rfl⟩
      · refine cxSeq ?_
        refine cxReg ?_
        refine pxV (v := (.int .u64 ((((b.getD 0 0).toNat) : Nat) : Int))) (fun _ _ hF => opMove rfl (hF.ev 1 rfl)) rfl (fun _ _ => rfl) (kM [false, true, true] rfl rfl) (by decide) ?_
        refine pxV (v := (.bool (decide ((b.getD 0 0).toNat < 255)))) (fun _ _ hF => opLss rfl (hF.ev 0 rfl) rfl (dc (by omega))) rfl (fun _ _ => rfl) (kM [false, true, true] rfl rfl) (by decide) ?_
        refine pxV (v := (.bool (decide ((b.getD 0 0).toNat < 255)))) (fun _ _ hF => opAssign rfl (hF.ev 0 rfl)) rfl (fun _ _ => rfl) (kM [false, true, true] rfl rfl) (by decide) ?_
        refine pxEnd ?_
        refine qxThen ?_
        refine cxP 0 rfl rfl (fun hc25 => ?_) (fun hc25 => ?_)
        · refine cxSeq ?_
          refine cxReg ?_
          refine pxV (v := (.int .u64 ((((b.getD 0 0).toNat) : Nat) : Int))) (fun _ _ hF => opMove rfl (hF.ev 1 rfl)) rfl (fun _ _ => rfl) (kM [false, false, false] rfl rfl) (by decide) ?_
          refine pxV (v := (.int .u64 ((((b.getD 0 0).toNat % 32) : Nat) : Int))) (fun _ _ hF => opAndU (m := (b.getD 0 0).toNat) (j := 31) (z := ((b.getD 0 0).toNat % 32)) rfl rfl (hF.ev 0 rfl) rfl (by show _ < 18446744073709551616; omega) (by decide) (and_mask (b.getD 0 0).toNat 5)) rfl (fun _ _ => rfl) (kM [false] rfl rfl) (by decide) ?_
          refine pxV (v := (.int .u64 (((2 ^ ((b.getD 0 0).toNat % 32)) : Nat) : Int))) (fun _ _ hF => opShlU (n := (b.getD 0 0).toNat % 32) (z := (2 ^ ((b.getD 0 0).toNat % 32))) rfl rfl rfl (hF.ev 0 rfl) (by show _ ≤ 64; omega) (by rw [Nat.one_mul]; exact Nat.mod_eq_of_lt (Nat.lt_of_le_of_lt (Nat.pow_le_pow_right (by decide) (show _ ≤ 31 by omega)) (by decide)))) rfl (fun _ _ => rfl) (kM [false] rfl rfl) (by decide) ?_
          refine pxV (v := (.int .u64 (((2 ^ ((b.getD 0 0).toNat % 32)) : Nat) : Int))) (fun _ _ hF => opAssign rfl (hF.ev 0 rfl)) rfl (fun _ _ => rfl) (kM [false] rfl rfl) (by decide) ?_
          refine pxV (v := (.bool true)) (fun _ _ hF => opAssign rfl rfl) rfl (fun _ _ => rfl) (kA rfl) (by decide) ?_
          refine pxV (v := (.bool true)) (fun _ _ hF => opAssign rfl rfl) rfl (fun _ _ => rfl) (kA rfl) (by decide) ?_
          refine pxEnd ?_
          refine qxThen ?_
          refine cxRet ?_
          refine qxInR ?_
          refine qxThenR ?_
          refine qxRet3 2 1 0 rfl rfl rfl rfl ?_
          have he : tkn b = (2 ^ ((b.getD 0 0).toNat % 32), 1, true) := by unfold tkn; rw [if_neg (by omega), if_neg hc12, if_neg hc13, if_pos hc25]
          exact ⟨_, _, rfl, ⟨_, _, _, rfl, _, _, _, rfl, hS9, .inl ⟨rfl, by rw [he], by rw [he], by rw [he]; show 1 ≠ 0; decide, by rw [he]; first | done | rfl⟩⟩, hH.out1 [true] rfl⟩
        · refine cxSkip ?_
          refine qxInN ?_
          refine qxThen ?_
          refine cxSeq ?_
          rcases Nat.lt_or_ge (b.drop 1).length 4 with hn26 | hn26
          · refine cxReg ?_
            refine pxV (v := (.pointer (some ⟨g, 0, none⟩))) (fun _ _ hF => opMove rfl (hF.ev 2 rfl)) rfl (fun _ _ => rfl) (kM [false, false, false] rfl rfl) (by decide) ?_
            refine pxE 0 hH rfl (fun _ hF => Does.small (number_no g c8 A7 (b.drop 1) hQ11 4 hn26) (fun w => opCall rfl Try.func23 rfl rfl (Evs.cons (v := (.pointer (some ⟨g, 0, none⟩))) (hF.ev 0 rfl) (Evs.cons (v := (.int .i64 4)) rfl Evs.nil)) w)) (hH.vu hV10 (by decide) hQ11) rfl (fun _ _ => rfl) (kM [false] rfl rfl) (by decide) ?_
            clear hH
            rintro _ _ w ⟨rfl, A27, c28, rfl, hS29⟩ hH
            obtain ⟨hV30, hQ31⟩ := hS29 w0 hV10
            replace hV30 : Vu cByte w0 A27 (b.drop 1).length c28 (b.drop 1) := hV30
            replace hQ31 := hQ31 _ hQ11
            replace hH : HH w0 (bks ([bl g 43 #[.slice A b.length c]])) [[bl g 43 #[(.slice A27 ((b.drop 1).length) c28)]]] w := hH
            refine pxV (v := (.tuple #[(.int .u64 0), (.bool false)])) (fun _ _ hF => opMove rfl (hF.ev 0 rfl)) rfl (fun _ _ => rfl) (kM [false] rfl rfl) (by decide) ?_
            refine pxV (v := (.int .u64 0)) (fun _ _ hF => opExtract rfl (hF.ev 0 rfl) rfl) rfl (fun _ _ => rfl) (kA rfl) (by decide) ?_
            refine pxV (v := (.bool false)) (fun _ _ hF => opExtract rfl (hF.ev 1 rfl) rfl) rfl (fun _ _ => rfl) (kM [true, false] rfl rfl) (by decide) ?_
            refine pxV (v := (.int .u64 0)) (fun _ _ hF => opAssign rfl (hF.ev 1 rfl)) rfl (fun _ _ => rfl) (kM [true, false] rfl rfl) (by decide) ?_
            refine pxV (v := (.bool false)) (fun _ _ hF => opAssign rfl (hF.ev 1 rfl)) rfl (fun _ _ => rfl) (kM [true, false] rfl rfl) (by decide) ?_
            refine pxEnd ?_
            refine qxThen ?_
            refine cxSeq ?_
            refine cxReg ?_
            refine pxV (v := (.int .u64 0)) (fun _ _ hF => opMove rfl (hF.ev 1 rfl)) rfl (fun _ _ => rfl) (kM [true, false] rfl rfl) (by decide) ?_
            refine pxV (v := (.bool false)) (fun _ _ hF => opMove rfl (hF.ev 1 rfl)) rfl (fun _ _ => rfl) (kM [true, false] rfl rfl) (by decide) ?_
            refine pxV (v := (.int .u64 0)) (fun _ _ hF => opAssign rfl (hF.ev 1 rfl)) rfl (fun _ _ => rfl) (kM [true, false] rfl rfl) (by decide) ?_
            refine pxV (v := (.bool false)) (fun _ _ hF => opAssign rfl rfl) rfl (fun _ _ => rfl) (kA rfl) (by decide) ?_
            refine pxV (v := (.bool false)) (fun _ _ hF => opAssign rfl (hF.ev 2 rfl)) rfl (fun _ _ => rfl) (kM [true, true, false] rfl rfl) (by decide) ?_
            refine pxEnd ?_
            refine qxThen ?_
            refine cxRet ?_
            refine qxRet3 2 1 0 rfl rfl rfl rfl ?_
            have he : tkn b = (0, 0, false) := by unfold tkn; rw [if_neg (by omega), if_neg hc12, if_neg hc13, if_neg hc25, if_pos (by rw [List.length_drop] at hn26; omega)]
            exact ⟨_, _, rfl, ⟨_, _, _, rfl, _, _, _, rfl, (hS9.trans hS29), .inr ⟨rfl, by rw [he]⟩⟩, hH.out1 [true] rfl⟩
          · refine cxReg ?_
            refine pxV (v := (.pointer (some ⟨g, 0, none⟩))) (fun _ _ hF => opMove rfl (hF.ev 2 rfl)) rfl (fun _ _ => rfl) (kM [false, false, false] rfl rfl) (by decide) ?_
            refine pxE 0 hH rfl (fun _ hF => Does.small (number_ok g c8 A7 (b.drop 1) hQ11 4 hn26 (leb rfl) (beN ((b.drop 1).take 4)) rfl) (fun w => opCall rfl Try.func23 rfl rfl (Evs.cons (v := (.pointer (some ⟨g, 0, none⟩))) (hF.ev 0 rfl) (Evs.cons (v := (.int .i64 4)) rfl Evs.nil)) w)) (hH.vu hV10 (by decide) hQ11) rfl (fun _ _ => rfl) (kM [false] rfl rfl) (by decide) ?_
            clear hH
            rintro _ _ w ⟨rfl, A32, c33, rfl, hS34⟩ hH
            obtain ⟨hV35, hQ36⟩ := hS34 w0 hV10
            replace hV35 : Vu cByte w0 A32 ((b.drop 1).drop 4).length c33 ((b.drop 1).drop 4) := hV35
            replace hQ36 := hQ36 _ hQ11
            replace hH : HH w0 (bks ([bl g 43 #[.slice A b.length c]])) [[bl g 43 #[(.slice A32 (((b.drop 1).drop 4).length) c33)]]] w := hH
            refine pxV (v := (.tuple #[(.int .u64 (((beN ((b.drop 1).take 4)) : Nat) : Int)), (.bool true)])) (fun _ _ hF => opMove rfl (hF.ev 0 rfl)) rfl (fun _ _ => rfl) (kM [false] rfl rfl) (by decide) ?_
            refine pxV (v := (.int .u64 (((beN ((b.drop 1).take 4)) : Nat) : Int))) (fun _ _ hF => opExtract rfl (hF.ev 0 rfl) rfl) rfl (fun _ _ => rfl) (kA rfl) (by decide) ?_
            refine pxV (v := (.bool true)) (fun _ _ hF => opExtract rfl (hF.ev 1 rfl) rfl) rfl (fun _ _ => rfl) (kM [true, false] rfl rfl) (by decide) ?_
            refine pxV (v := (.int .u64 (((beN ((b.drop 1).take 4)) : Nat) : Int))) (fun _ _ hF => opAssign rfl (hF.ev 1 rfl)) rfl (fun _ _ => rfl) (kM [true, false] rfl rfl) (by decide) ?_
            refine pxV (v := (.bool true)) (fun _ _ hF => opAssign rfl (hF.ev 1 rfl)) rfl (fun _ _ => rfl) (kM [true, false] rfl rfl) (by decide) ?_
            refine pxEnd ?_
            refine qxThen ?_
            refine cxSeq ?_
            refine cxReg ?_
            refine pxV (v := (.int .u64 (((beN ((b.drop 1).take 4)) : Nat) : Int))) (fun _ _ hF => opMove rfl (hF.ev 1 rfl)) rfl (fun _ _ => rfl) (kM [true, false] rfl rfl) (by decide) ?_
            refine pxV (v := (.bool true)) (fun _ _ hF => opMove rfl (hF.ev 1 rfl)) rfl (fun _ _ => rfl) (kM [true, false] rfl rfl) (by decide) ?_
            refine pxV (v := (.int .u64 (((beN ((b.drop 1).take 4)) : Nat) : Int))) (fun _ _ hF => opAssign rfl (hF.ev 1 rfl)) rfl (fun _ _ => rfl) (kM [true, false] rfl rfl) (by decide) ?_
            refine pxV (v := (.bool false)) (fun _ _ hF => opAssign rfl rfl) rfl (fun _ _ => rfl) (kA rfl) (by decide) ?_
            refine pxV (v := (.bool true)) (fun _ _ hF => opAssign rfl (hF.ev 2 rfl)) rfl (fun _ _ => rfl) (kM [true, true, false] rfl rfl) (by decide) ?_
            refine pxEnd ?_
            refine qxThen ?_
            refine cxRet ?_
            refine qxRet3 2 1 0 rfl rfl rfl rfl ?_
            have he : tkn b = (beN ((b.drop 1).take 4), 5, false) := by unfold tkn; rw [if_neg (by omega), if_neg hc12, if_neg hc13, if_neg hc25, if_neg (by rw [List.length_drop] at hn26; omega)]
            exact ⟨_, _, rfl, ⟨_, _, _, rfl, _, _, _, rfl, (hS9.trans hS34), .inl ⟨rfl, by rw [he], by rw [he], by rw [he]; show 5 ≠ 0; decide, by rw [he]; exact List.drop_drop ..⟩⟩, hH.out1 [true] rfl⟩

theorem mayT_yes {t : Nat} (h : t = 8 ∨ t = 9 ∨ t = 11 ∨ t = 18) : mayT t = true := by rcases h with rfl | rfl | rfl | rfl <;> rfl
theorem mayT_no {t : Nat} (h : t ≠ 8 ∧ t ≠ 9 ∧ t ≠ 11 ∧ t ≠ 18) : mayT t = false := by unfold mayT; simp [h.1, h.2.1, h.2.2.1, h.2.2.2]
theorem legK_small {kind : Nat} (h : kind < 4) (h3 : ¬ kind = 3) : legK kind = 2 ^ kind ∧ legK kind ≤ 8 := by
  unfold legK
  rw [if_neg h3]
  refine ⟨rfl, Nat.le_trans (Nat.pow_le_pow_right (by decide) (show kind ≤ 3 by omega)) (by decide)⟩
theorem legN_of {kind : Nat} {b : List UInt8} (h3 : ¬ kind = 3) : beN (b.take (legK kind)) = legN kind b := by unfold legN; rw [if_neg h3]
theorem legN_lt {kind : Nat} {b : List UInt8} (h : kind < 4) (h3 : ¬ kind = 3) : legN kind b < 4294967296 := by
  rw [← legN_of h3]
  have h1 := beN_lt (b.take (legK kind))
  have h2 : (b.take (legK kind)).length ≤ 4 := by
    rw [List.length_take]
    unfold legK
    rw [if_neg h3]
    have : 2 ^ kind ≤ 2 ^ 2 := Nat.pow_le_pow_right (by decide) (show kind ≤ 2 by omega)
    omega
  have h4 : 256 ^ (b.take (legK kind)).length ≤ 256 ^ 4 := Nat.pow_le_pow_right (by decide) h2
  have e : (256 : Nat) ^ 4 = 4294967296 := rfl
  omega

set_option maxHeartbeats 8000000 in
theorem may_c (t : Nat) : Pure Try.prog 30 #[(.int .i64 (((t) : Nat) : Int))] (fun _ => True) (.bool (mayT t)) := by
  refine pure_of (fn := Try.f30) Try.func30 rfl Try.ntmps30 (Nat.le_of_ble_eq_true rfl) rfl ?_
  intro w0 hH hR
  refine cxSeq ?_
  refine cxReg ?_
  refine pxV (v := (.bool false)) (fun _ _ hF => opAssign rfl rfl) rfl (fun _ _ => rfl) (kA rfl) (by decide) ?_
  refine pxEnd ?_
  refine qxThen ?_
  refine cxSeq ?_
  refine cxSeq ?_
  refine cxReg ?_
  refine pxV (v := (.int .i64 (((t) : Nat) : Int))) (fun _ _ hF => opMove rfl (hF.ev 1 rfl)) rfl (fun _ _ => rfl) (kM [false, false] rfl rfl) (by decide) ?_
  refine pxEnd ?_
  refine qxThen ?_
  refine cxBlock ?_
  refine cxSeq ?_
  refine cxSeq ?_
  refine cxReg ?_
  refine pxV (v := (.bool (decide (t = 8)))) (fun _ _ hF => opEqI rfl (hF.ev 0 rfl) rfl (dc (by omega))) rfl (fun _ _ => rfl) (kA rfl) (by decide) ?_
  refine pxV (v := (.bool (decide (t = 8)))) (fun _ _ hF => opAssign rfl (hF.ev 0 rfl)) rfl (fun _ _ => rfl) (kM [false, true] rfl rfl) (by decide) ?_
  refine pxEnd ?_
  refine qxThen ?_
  refine cxP 0 rfl rfl (fun hc1 => ?_) (fun hc1 => ?_)
  · refine cxSkip ?_
    refine qxThen ?_
    refine cxP 0 rfl rfl (fun hc2 => ?_) (fun hc2 => ?_)
    · refine cxSeq ?_
      refine cxReg ?_
      refine pxV (v := (.bool true)) (fun _ _ hF => opAssign rfl rfl) rfl (fun _ _ => rfl) (kM [false, false] rfl rfl) (by decide) ?_
      refine pxEnd ?_
      refine qxThen ?_
      refine cxRet ?_
      refine qxInR ?_
      refine qxThenR ?_
      refine qxRet1 0 rfl rfl ?_
      have he := mayT_yes (t := t) (by omega)
      exact ⟨by rw [he], HH.toBelow hH⟩
    · refine cxSkip ?_
      refine qxInN ?_
      refine qxThen ?_
      refine cxSeq ?_
      refine cxReg ?_
      refine pxV (v := (.bool false)) (fun _ _ hF => opAssign rfl rfl) rfl (fun _ _ => rfl) (kM [false, false] rfl rfl) (by decide) ?_
      refine pxEnd ?_
      refine qxThen ?_
      refine cxRet ?_
      refine qxRet1 0 rfl rfl ?_
      have he := mayT_no (t := t) (by omega)
      exact ⟨by rw [he], HH.toBelow hH⟩
  · refine cxSeq ?_
    refine cxReg ?_
    refine pxV (v := (.bool (decide (t = 9)))) (fun _ _ hF => opEqI rfl (hF.ev 1 rfl) rfl (dc (by omega))) rfl (fun _ _ => rfl) (kM [false, true] rfl rfl) (by decide) ?_
    refine pxV (v := (.bool (decide (t = 9)))) (fun _ _ hF => opAssign rfl (hF.ev 0 rfl)) rfl (fun _ _ => rfl) (kM [false, true] rfl rfl) (by decide) ?_
    refine pxEnd ?_
    refine qxThen ?_
    refine cxP 0 rfl rfl (fun hc3 => ?_) (fun hc3 => ?_)
    · refine cxSkip ?_
      refine qxThen ?_
      refine cxP 0 rfl rfl (fun hc4 => ?_) (fun hc4 => ?_)
      · refine cxSeq ?_
        refine cxReg ?_
        refine pxV (v := (.bool true)) (fun _ _ hF => opAssign rfl rfl) rfl (fun _ _ => rfl) (kM [false, false] rfl rfl) (by decide) ?_
        refine pxEnd ?_
        refine qxThen ?_
        refine cxRet ?_
        refine qxInR ?_
        refine qxThenR ?_
        refine qxRet1 0 rfl rfl ?_
        have he := mayT_yes (t := t) (by omega)
        exact ⟨by rw [he], HH.toBelow hH⟩
      · refine cxSkip ?_
        refine qxInN ?_
        refine qxThen ?_
        refine cxSeq ?_
        refine cxReg ?_
        refine pxV (v := (.bool false)) (fun _ _ hF => opAssign rfl rfl) rfl (fun _ _ => rfl) (kM [false, false] rfl rfl) (by decide) ?_
        refine pxEnd ?_
        refine qxThen ?_
        refine cxRet ?_
        refine qxRet1 0 rfl rfl ?_
        have he := mayT_no (t := t) (by omega)
        exact ⟨by rw [he], HH.toBelow hH⟩
    · refine cxSeq ?_
      refine cxReg ?_
      refine pxV (v := (.bool (decide (t = 11)))) (fun _ _ hF => opEqI rfl (hF.ev 1 rfl) rfl (dc (by omega))) rfl (fun _ _ => rfl) (kM [false, true] rfl rfl) (by decide) ?_
      refine pxV (v := (.bool (decide (t = 11)))) (fun _ _ hF => opAssign rfl (hF.ev 0 rfl)) rfl (fun _ _ => rfl) (kM [false, true] rfl rfl) (by decide) ?_
      refine pxEnd ?_
      refine qxThen ?_
      refine cxP 0 rfl rfl (fun hc5 => ?_) (fun hc5 => ?_)
      · refine cxSkip ?_
        refine qxThen ?_
        refine cxP 0 rfl rfl (fun hc6 => ?_) (fun hc6 => ?_)
        · refine cxSeq ?_
          refine cxReg ?_
          refine pxV (v := (.bool true)) (fun _ _ hF => opAssign rfl rfl) rfl (fun _ _ => rfl) (kM [false, false] rfl rfl) (by decide) ?_
          refine pxEnd ?_
          refine qxThen ?_
          refine cxRet ?_
          refine qxInR ?_
          refine qxThenR ?_
          refine qxRet1 0 rfl rfl ?_
          have he := mayT_yes (t := t) (by omega)
          exact ⟨by rw [he], HH.toBelow hH⟩
        · refine cxSkip ?_
          refine qxInN ?_
          refine qxThen ?_
          refine cxSeq ?_
          refine cxReg ?_
          refine pxV (v := (.bool false)) (fun _ _ hF => opAssign rfl rfl) rfl (fun _ _ => rfl) (kM [false, false] rfl rfl) (by decide) ?_
          refine pxEnd ?_
          refine qxThen ?_
          refine cxRet ?_
          refine qxRet1 0 rfl rfl ?_
          have he := mayT_no (t := t) (by omega)
          exact ⟨by rw [he], HH.toBelow hH⟩
      · refine cxReg ?_
        refine pxV (v := (.bool (decide (t = 18)))) (fun _ _ hF => opEqI rfl (hF.ev 1 rfl) rfl (dc (by omega))) rfl (fun _ _ => rfl) (kM [false, false] rfl rfl) (by decide) ?_
        refine pxV (v := (.bool (decide (t = 18)))) (fun _ _ hF => opAssign rfl (hF.ev 0 rfl)) rfl (fun _ _ => rfl) (kM [false] rfl rfl) (by decide) ?_
        refine pxEnd ?_
        refine qxThen ?_
        refine cxP 0 rfl rfl (fun hc7 => ?_) (fun hc7 => ?_)
        · refine cxSeq ?_
          refine cxReg ?_
          refine pxV (v := (.bool true)) (fun _ _ hF => opAssign rfl rfl) rfl (fun _ _ => rfl) (kM [false] rfl rfl) (by decide) ?_
          refine pxEnd ?_
          refine qxThen ?_
          refine cxRet ?_
          refine qxInR ?_
          refine qxThenR ?_
          refine qxRet1 0 rfl rfl ?_
          have he := mayT_yes (t := t) (by omega)
          exact ⟨by rw [he], HH.toBelow hH⟩
        · refine cxSkip ?_
          refine qxInN ?_
          refine qxThen ?_
          refine cxSeq ?_
          refine cxReg ?_
          refine pxV (v := (.bool false)) (fun _ _ hF => opAssign rfl rfl) rfl (fun _ _ => rfl) (kM [false] rfl rfl) (by decide) ?_
          refine pxEnd ?_
          refine qxThen ?_
          refine cxRet ?_
          refine qxRet1 0 rfl rfl ?_
          have he := mayT_no (t := t) (by omega)
          exact ⟨by rw [he], HH.toBelow hH⟩

set_option maxHeartbeats 8000000 in
theorem ext_long (g c : Nat) (A : Option Addr) (b : List UInt8) (Ab : Option Addr) (cb : Nat) (body : List UInt8) (E2 : Hl) (_hO : OwnT cByte 5 (.slice Ab body.length cb) body E2) (_hA : Off A b.length (bks ([[bl g 43 #[.slice A b.length c]], E2] : List Hl).flatten)) (hb : body.length ≤ 20000) (n : Nat) (hn : n ≤ 140737488355328) (hl : 20000 < body.length + n) : Does Try.prog 31 #[(.pointer (some ⟨g, 0, none⟩)), (.slice Ab body.length cb), (.int .u64 (((n) : Nat) : Int))] ([[bl g 43 #[.slice A b.length c]], E2] : List Hl).flatten (fun w => Vu cByte w A b.length c b) (fun v E' => v = .tuple #[.slice none 0 0, .int .i64 6] ∧ ∃ A' c', E' = [bl g 43 #[.slice A' b.length c']] ∧ Sfx A c b A' c' b) := by
  refine does_of (fn := Try.f31) Try.func31 rfl Try.ntmps31 (Nat.le_of_ble_eq_true rfl) rfl ?_
  intro w0 hH hR
  have hcap := hR.cap
  replace hH : HH w0 (bks (([[bl g 43 #[.slice A b.length c]], E2] : List Hl).flatten)) [[bl g 43 #[(.slice A b.length c)]], E2] w0 := hH.cast (by simp)
  refine cxSeq ?_
  refine cxReg ?_
  refine pxV (v := (.slice none 0 0)) (fun _ _ hF => opAssign rfl rfl) rfl (fun _ _ => rfl) (kA rfl) (by decide) ?_
  refine pxV (v := (.int .i64 0)) (fun _ _ hF => opAssign rfl rfl) rfl (fun _ _ => rfl) (kM [false, true, true, true] rfl rfl) (by decide) ?_
  refine pxEnd ?_
  refine qxThen ?_
  refine cxSeq ?_
  refine cxSeq ?_
  refine cxReg ?_
  refine pxV (v := (.slice Ab body.length cb)) (fun _ _ hF => opMove rfl (hF.ev 2 rfl)) rfl (fun _ _ => rfl) (kM [false, true, true, true] rfl rfl) (by decide) ?_
  refine pxV (v := (.int .i64 (((body.length) : Nat) : Int))) (fun _ _ hF => opLen (e := 5) rfl (by kernel_rfl) (hF.ev 0 rfl)) rfl (fun _ _ => rfl) (kM [false, true, true, true] rfl rfl) (by decide) ?_
  refine pxV (v := (.int .u64 (((body.length) : Nat) : Int))) (fun _ _ hF => opConvU (k' := .u64) rfl rfl (by kernel_rfl) (by kernel_rfl) (hF.ev 0 rfl) (Nat.mod_eq_of_lt (by show _ < 18446744073709551616; omega))) rfl (fun _ _ => rfl) (kM [false, true, true, true] rfl rfl) (by decide) ?_
  refine pxV (v := (.int .u64 (((n) : Nat) : Int))) (fun _ _ hF => opMove rfl (hF.ev 3 rfl)) rfl (fun _ _ => rfl) (kA rfl) (by decide) ?_
  refine pxV (v := (.int .u64 (((body.length + n) : Nat) : Int))) (fun _ _ hF => opAddU (m := body.length) (j := n) (z := (body.length + n)) rfl rfl (hF.ev 1 rfl) (hF.ev 0 rfl) (Nat.mod_eq_of_lt (by show _ < 18446744073709551616; omega))) rfl (fun _ _ => rfl) (kM [false, false, true, true, true] rfl rfl) (by decide) ?_
  refine pxV (v := (.bool true)) (fun _ _ hF => opGtr rfl (hF.ev 0 rfl) rfl (decide_eq_true (by omega))) rfl (fun _ _ => rfl) (kM [false, true, true, true] rfl rfl) (by decide) ?_
  refine pxEnd ?_
  refine qxThen ?_
  refine cxT 0 rfl rfl ?_
  refine cxSeq ?_
  refine cxReg ?_
  refine pxV (v := (.slice none 0 0)) (fun _ _ hF => opAssign rfl rfl) rfl (fun _ _ => rfl) (kM [false, false, false, false] rfl rfl) (by decide) ?_
  refine pxV (v := (.int .i64 6)) (fun _ _ hF => opAssign rfl rfl) rfl (fun _ _ => rfl) (kA rfl) (by decide) ?_
  refine pxEnd ?_
  refine qxThen ?_
  refine cxRet ?_
  refine qxThenR ?_
  refine qxRet2 1 0 rfl rfl rfl ?_
  exact ⟨_, _, rfl, ⟨rfl, _, _, rfl, Sfx.refl _ _ _⟩, hH.out1 [true, false] rfl⟩

theorem off_sub {A : Option Addr} {n g : Nat} {t : TypeId} {cs : Array Value} {E : Hl} (h : Off A n (bks ([[bl g t cs], E] : List Hl).flatten)) : Off A n [g] := fun b off hA hn hm => h b off hA hn (by
  obtain rfl := List.mem_singleton.1 hm
  simp [bks])

set_option maxHeartbeats 8000000 in
theorem ext_few (g c : Nat) (A : Option Addr) (b : List UInt8) (Ab : Option Addr) (cb : Nat) (body : List UInt8) (E2 : Hl) (_hO : OwnT cByte 5 (.slice Ab body.length cb) body E2) (hA : Off A b.length (bks ([[bl g 43 #[.slice A b.length c]], E2] : List Hl).flatten)) (hb : body.length ≤ 20000) (n : Nat) (hn : n ≤ 140737488355328) (hl : body.length + n ≤ 20000) (hf : b.length < n) : Does Try.prog 31 #[(.pointer (some ⟨g, 0, none⟩)), (.slice Ab body.length cb), (.int .u64 (((n) : Nat) : Int))] ([[bl g 43 #[.slice A b.length c]], E2] : List Hl).flatten (fun w => Vu cByte w A b.length c b) (fun v E' => v = .tuple #[.slice none 0 0, .int .i64 2] ∧ ∃ A' c', E' = [bl g 43 #[.slice A' b.length c']] ∧ Sfx A c b A' c' b) := by
  refine does_of (fn := Try.f31) Try.func31 rfl Try.ntmps31 (Nat.le_of_ble_eq_true rfl) rfl ?_
  intro w0 hH hR
  have hcap := hR.cap
  replace hH : HH w0 (bks (([[bl g 43 #[.slice A b.length c]], E2] : List Hl).flatten)) [[bl g 43 #[(.slice A b.length c)]], E2] w0 := hH.cast (by simp)
  refine cxSeq ?_
  refine cxReg ?_
  refine pxV (v := (.slice none 0 0)) (fun _ _ hF => opAssign rfl rfl) rfl (fun _ _ => rfl) (kA rfl) (by decide) ?_
  refine pxV (v := (.int .i64 0)) (fun _ _ hF => opAssign rfl rfl) rfl (fun _ _ => rfl) (kM [false, true, true, true] rfl rfl) (by decide) ?_
  refine pxEnd ?_
  refine qxThen ?_
  refine cxSeq ?_
  refine cxSeq ?_
  refine cxReg ?_
  refine pxV (v := (.slice Ab body.length cb)) (fun _ _ hF => opMove rfl (hF.ev 2 rfl)) rfl (fun _ _ => rfl) (kM [false, true, true, true] rfl rfl) (by decide) ?_
  refine pxV (v := (.int .i64 (((body.length) : Nat) : Int))) (fun _ _ hF => opLen (e := 5) rfl (by kernel_rfl) (hF.ev 0 rfl)) rfl (fun _ _ => rfl) (kM [false, true, true, true] rfl rfl) (by decide) ?_
  refine pxV (v := (.int .u64 (((body.length) : Nat) : Int))) (fun _ _ hF => opConvU (k' := .u64) rfl rfl (by kernel_rfl) (by kernel_rfl) (hF.ev 0 rfl) (Nat.mod_eq_of_lt (by show _ < 18446744073709551616; omega))) rfl (fun _ _ => rfl) (kM [false, true, true, true] rfl rfl) (by decide) ?_
  refine pxV (v := (.int .u64 (((n) : Nat) : Int))) (fun _ _ hF => opMove rfl (hF.ev 3 rfl)) rfl (fun _ _ => rfl) (kA rfl) (by decide) ?_
  refine pxV (v := (.int .u64 (((body.length + n) : Nat) : Int))) (fun _ _ hF => opAddU (m := body.length) (j := n) (z := (body.length + n)) rfl rfl (hF.ev 1 rfl) (hF.ev 0 rfl) (Nat.mod_eq_of_lt (by show _ < 18446744073709551616; omega))) rfl (fun _ _ => rfl) (kM [false, false, true, true, true] rfl rfl) (by decide) ?_
  refine pxV (v := (.bool false)) (fun _ _ hF => opGtr rfl (hF.ev 0 rfl) rfl (decide_eq_false (by omega))) rfl (fun _ _ => rfl) (kM [false, true, true, true] rfl rfl) (by decide) ?_
  refine pxEnd ?_
  refine qxThen ?_
  refine cxF 0 rfl rfl ?_
  refine cxSkip ?_
  refine qxThen ?_
  refine cxSeq ?_
  refine cxReg ?_
  refine pxV (v := (.pointer (some ⟨g, 0, none⟩))) (fun _ _ hF => opMove rfl (hF.ev 1 rfl)) rfl (fun _ _ => rfl) (kM [false, false, true, true] rfl rfl) (by decide) ?_
  refine pxV (v := (.int .u64 (((n) : Nat) : Int))) (fun _ _ hF => opMove rfl (hF.ev 2 rfl)) rfl (fun _ _ => rfl) (kM [true, true, false] rfl rfl) (by decide) ?_
  refine pxV (v := (.int .i64 (((n) : Nat) : Int))) (fun _ _ hF => opConvI (k' := .i64) rfl (by kernel_rfl) (by kernel_rfl) (hF.ev 0 rfl) (wI rfl (by omega) (by omega))) rfl (fun _ _ => rfl) (kM [false, true, true] rfl rfl) (by decide) ?_
  refine pxE 0 hH rfl (fun _ hF => Does.small (take_no g c A b n hf) (fun w => opCall rfl Try.func27 rfl rfl (Evs.cons (v := (.pointer (some ⟨g, 0, none⟩))) (hF.ev 1 rfl) (Evs.cons (v := (.int .i64 (((n) : Nat) : Int))) (hF.ev 0 rfl) Evs.nil)) w)) (hH.vu hR (by decide) hA) rfl (fun _ _ => rfl) (kM [false, false, true] rfl rfl) (by decide) ?_
  clear hH
  rintro _ _ w ⟨rfl, A1, c2, rfl, hS3⟩ hH
  obtain ⟨hV4, hQ5⟩ := hS3 w0 hR
  replace hV4 : Vu cByte w0 A1 b.length c2 b := hV4
  replace hQ5 := hQ5 _ hA
  replace hH : HH w0 (bks (([[bl g 43 #[.slice A b.length c]], E2] : List Hl).flatten)) [[bl g 43 #[(.slice A1 b.length c2)]], E2] w := hH
  refine pxV (v := (.tuple #[(.slice none 0 0), (.bool false)])) (fun _ _ hF => opMove rfl (hF.ev 0 rfl)) rfl (fun _ _ => rfl) (kM [false, true] rfl rfl) (by decide) ?_
  refine pxV (v := (.slice none 0 0)) (fun _ _ hF => opExtract rfl (hF.ev 0 rfl) rfl) rfl (fun _ _ => rfl) (kA rfl) (by decide) ?_
  refine pxV (v := (.bool false)) (fun _ _ hF => opExtract rfl (hF.ev 1 rfl) rfl) rfl (fun _ _ => rfl) (kM [true, false, true] rfl rfl) (by decide) ?_
  refine pxV (v := (.slice none 0 0)) (fun _ _ hF => opAssign rfl (hF.ev 1 rfl)) rfl (fun _ _ => rfl) (kM [true, false, true] rfl rfl) (by decide) ?_
  refine pxV (v := (.bool false)) (fun _ _ hF => opAssign rfl (hF.ev 1 rfl)) rfl (fun _ _ => rfl) (kM [true, false, true] rfl rfl) (by decide) ?_
  refine pxEnd ?_
  refine qxThen ?_
  refine cxSeq ?_
  refine cxSeq ?_
  refine cxReg ?_
  refine pxV (v := (.bool false)) (fun _ _ hF => opMove rfl (hF.ev 0 rfl)) rfl (fun _ _ => rfl) (kM [false, true, true] rfl rfl) (by decide) ?_
  refine pxV (v := (.bool true)) (fun _ _ hF => opNot rfl (hF.ev 0 rfl) rfl) rfl (fun _ _ => rfl) (kM [false, true, true] rfl rfl) (by decide) ?_
  refine pxEnd ?_
  refine qxThen ?_
  refine cxT 0 rfl rfl ?_
  refine cxSeq ?_
  refine cxReg ?_
  refine pxV (v := (.slice none 0 0)) (fun _ _ hF => opAssign rfl rfl) rfl (fun _ _ => rfl) (kM [false, false, false] rfl rfl) (by decide) ?_
  refine pxV (v := (.int .i64 2)) (fun _ _ hF => opAssign rfl rfl) rfl (fun _ _ => rfl) (kA rfl) (by decide) ?_
  refine pxEnd ?_
  refine qxThen ?_
  refine cxRet ?_
  refine qxThenR ?_
  refine qxRet2 1 0 rfl rfl rfl ?_
  exact ⟨_, _, rfl, ⟨rfl, _, _, rfl, hS3⟩, hH.out1 [true, false] rfl⟩

set_option maxHeartbeats 8000000 in
theorem ext_ok (g c : Nat) (A : Option Addr) (b : List UInt8) (Ab : Option Addr) (cb : Nat) (body : List UInt8) (E2 : Hl) (hO : OwnT cByte 5 (.slice Ab body.length cb) body E2) (hA : Off A b.length (bks ([[bl g 43 #[.slice A b.length c]], E2] : List Hl).flatten)) (hb : body.length ≤ 20000) (n : Nat) (hn : n ≤ 140737488355328) (hl : body.length + n ≤ 20000) (hf : n ≤ b.length) : Does Try.prog 31 #[(.pointer (some ⟨g, 0, none⟩)), (.slice Ab body.length cb), (.int .u64 (((n) : Nat) : Int))] ([[bl g 43 #[.slice A b.length c]], E2] : List Hl).flatten (fun w => Vu cByte w A b.length c b) (fun v E' => ∃ s E1 E3, v = .tuple #[s, .int .i64 0] ∧ E' = ([E1, E3] : List Hl).flatten ∧ OwnT cByte 5 s (body ++ b.take n) E3 ∧ ∃ A' c', E1 = [bl g 43 #[.slice A' (b.drop n).length c']] ∧ Sfx A c b A' c' (b.drop n)) := by
  refine does_of (fn := Try.f31) Try.func31 rfl Try.ntmps31 (Nat.le_of_ble_eq_true rfl) rfl ?_
  intro w0 hH hR
  have hcap := hR.cap
  replace hH : HH w0 (bks (([[bl g 43 #[.slice A b.length c]], E2] : List Hl).flatten)) [[bl g 43 #[(.slice A b.length c)]], E2] w0 := hH.cast (by simp)
  refine cxSeq ?_
  refine cxReg ?_
  refine pxV (v := (.slice none 0 0)) (fun _ _ hF => opAssign rfl rfl) rfl (fun _ _ => rfl) (kA rfl) (by decide) ?_
  refine pxV (v := (.int .i64 0)) (fun _ _ hF => opAssign rfl rfl) rfl (fun _ _ => rfl) (kM [false, true, true, true] rfl rfl) (by decide) ?_
  refine pxEnd ?_
  refine qxThen ?_
  refine cxSeq ?_
  refine cxSeq ?_
  refine cxReg ?_
  refine pxV (v := (.slice Ab body.length cb)) (fun _ _ hF => opMove rfl (hF.ev 2 rfl)) rfl (fun _ _ => rfl) (kM [false, true, true, true] rfl rfl) (by decide) ?_
  refine pxV (v := (.int .i64 (((body.length) : Nat) : Int))) (fun _ _ hF => opLen (e := 5) rfl (by kernel_rfl) (hF.ev 0 rfl)) rfl (fun _ _ => rfl) (kM [false, true, true, true] rfl rfl) (by decide) ?_
  refine pxV (v := (.int .u64 (((body.length) : Nat) : Int))) (fun _ _ hF => opConvU (k' := .u64) rfl rfl (by kernel_rfl) (by kernel_rfl) (hF.ev 0 rfl) (Nat.mod_eq_of_lt (by show _ < 18446744073709551616; omega))) rfl (fun _ _ => rfl) (kM [false, true, true, true] rfl rfl) (by decide) ?_
  refine pxV (v := (.int .u64 (((n) : Nat) : Int))) (fun _ _ hF => opMove rfl (hF.ev 3 rfl)) rfl (fun _ _ => rfl) (kA rfl) (by decide) ?_
  refine pxV (v := (.int .u64 (((body.length + n) : Nat) : Int))) (fun _ _ hF => opAddU (m := body.length) (j := n) (z := (body.length + n)) rfl rfl (hF.ev 1 rfl) (hF.ev 0 rfl) (Nat.mod_eq_of_lt (by show _ < 18446744073709551616; omega))) rfl (fun _ _ => rfl) (kM [false, false, true, true, true] rfl rfl) (by decide) ?_
  refine pxV (v := (.bool false)) (fun _ _ hF => opGtr rfl (hF.ev 0 rfl) rfl (decide_eq_false (by omega))) rfl (fun _ _ => rfl) (kM [false, true, true, true] rfl rfl) (by decide) ?_
  refine pxEnd ?_
  refine qxThen ?_
  refine cxF 0 rfl rfl ?_
  refine cxSkip ?_
  refine qxThen ?_
  refine cxSeq ?_
  refine cxReg ?_
  refine pxV (v := (.pointer (some ⟨g, 0, none⟩))) (fun _ _ hF => opMove rfl (hF.ev 1 rfl)) rfl (fun _ _ => rfl) (kM [false, false, true, true] rfl rfl) (by decide) ?_
  refine pxV (v := (.int .u64 (((n) : Nat) : Int))) (fun _ _ hF => opMove rfl (hF.ev 2 rfl)) rfl (fun _ _ => rfl) (kM [true, true, false] rfl rfl) (by decide) ?_
  refine pxV (v := (.int .i64 (((n) : Nat) : Int))) (fun _ _ hF => opConvI (k' := .i64) rfl (by kernel_rfl) (by kernel_rfl) (hF.ev 0 rfl) (wI rfl (by omega) (by omega))) rfl (fun _ _ => rfl) (kM [false, true, true] rfl rfl) (by decide) ?_
  refine pxE 0 hH rfl (fun _ hF => Does.small (take_ok g c A b n hf) (fun w => opCall rfl Try.func27 rfl rfl (Evs.cons (v := (.pointer (some ⟨g, 0, none⟩))) (hF.ev 1 rfl) (Evs.cons (v := (.int .i64 (((n) : Nat) : Int))) (hF.ev 0 rfl) Evs.nil)) w)) (hH.vu hR (by decide) hA) rfl (fun _ _ => rfl) (kM [false, false, true] rfl rfl) (by decide) ?_
  clear hH
  rintro _ _ w ⟨rfl, A1, c2, rfl, hS3⟩ hH
  obtain ⟨hV4, hQ5⟩ := hS3 w0 hR
  replace hV4 : Vu cByte w0 A1 (b.drop n).length c2 (b.drop n) := hV4
  replace hQ5 := hQ5 _ hA
  replace hH : HH w0 (bks (([[bl g 43 #[.slice A b.length c]], E2] : List Hl).flatten)) [[bl g 43 #[(.slice A1 ((b.drop n).length) c2)]], E2] w := hH
  refine pxV (v := (.tuple #[(.slice A n c), (.bool true)])) (fun _ _ hF => opMove rfl (hF.ev 0 rfl)) rfl (fun _ _ => rfl) (kM [false, true] rfl rfl) (by decide) ?_
  refine pxV (v := (.slice A n c)) (fun _ _ hF => opExtract rfl (hF.ev 0 rfl) rfl) rfl (fun _ _ => rfl) (kA rfl) (by decide) ?_
  refine pxV (v := (.bool true)) (fun _ _ hF => opExtract rfl (hF.ev 1 rfl) rfl) rfl (fun _ _ => rfl) (kM [true, false, true] rfl rfl) (by decide) ?_
  refine pxV (v := (.slice A n c)) (fun _ _ hF => opAssign rfl (hF.ev 1 rfl)) rfl (fun _ _ => rfl) (kM [true, false, true] rfl rfl) (by decide) ?_
  refine pxV (v := (.bool true)) (fun _ _ hF => opAssign rfl (hF.ev 1 rfl)) rfl (fun _ _ => rfl) (kM [true, false, true] rfl rfl) (by decide) ?_
  refine pxEnd ?_
  refine qxThen ?_
  refine cxSeq ?_
  refine cxSeq ?_
  refine cxReg ?_
  refine pxV (v := (.bool true)) (fun _ _ hF => opMove rfl (hF.ev 0 rfl)) rfl (fun _ _ => rfl) (kM [false, true, true] rfl rfl) (by decide) ?_
  refine pxV (v := (.bool false)) (fun _ _ hF => opNot rfl (hF.ev 0 rfl) rfl) rfl (fun _ _ => rfl) (kM [false, true, true] rfl rfl) (by decide) ?_
  refine pxEnd ?_
  refine qxThen ?_
  refine cxF 0 rfl rfl ?_
  refine cxSkip ?_
  refine qxThen ?_
  refine cxSeq ?_
  refine cxReg ?_
  refine pxV (v := (.slice Ab body.length cb)) (fun _ _ hF => opMove rfl (hF.ev 2 rfl)) rfl (fun _ _ => rfl) (kM [false, true, false] rfl rfl) (by decide) ?_
  refine pxV (v := (.slice A n c)) (fun _ _ hF => opMove rfl (hF.ev 1 rfl)) rfl (fun _ _ => rfl) (kM [true, false] rfl rfl) (by decide) ?_
  refine pxE 1 hH rfl (fun _ hF => smAppT (C := cByte) (l := body) (m := (b.take n)) (e := 5) (z := (.int .u8 0)) (by_ := 1) rfl (by kernel_rfl) (by kernel_rfl) rfl (ltb rfl) (hF.ev 1 rfl) hO (hF.ev 0 rfl) (by rw [List.length_take]; omega) (fun h => by have := hR.nilA h; omega) (by unfold maxLen; omega) (by omega)) ((hH.vu hR (by decide) hA).head (m := n) (by omega)) rfl (fun _ _ => rfl) (kM [false, false] rfl rfl) (by decide) ?_
  clear hH
  rintro v8 E9 w ⟨hO10, _⟩ hH
  replace hH : HH w0 (bks (([[bl g 43 #[.slice A b.length c]], E2] : List Hl).flatten)) [[bl g 43 #[(.slice A1 ((b.drop n).length) c2)]], E9] w := hH
  replace hO10 : OwnT cByte 5 v8 (body ++ (b.take n)) E9 := hO10
  obtain ⟨A6, c7, rfl⟩ := hO10.slice
  refine pxV (v := (.slice A6 ((body ++ (b.take n)).length) c7)) (fun _ _ hF => opAssign rfl (hF.ev 0 rfl)) rfl (fun _ _ => rfl) (kM [false] rfl rfl) (by decide) ?_
  refine pxV (v := (.int .i64 0)) (fun _ _ hF => opAssign rfl rfl) rfl (fun _ _ => rfl) (kA rfl) (by decide) ?_
  refine pxEnd ?_
  refine qxThen ?_
  refine cxRet ?_
  refine qxRet2 1 0 rfl rfl rfl ?_
  exact ⟨_, _, rfl, ⟨(.slice A6 ((body ++ (b.take n)).length) c7), _, _, rfl, rfl, hO10, _, _, rfl, hS3⟩, hH.out [true, true]⟩
end Go.Proofs.Ytjncbpmigpocbaa
