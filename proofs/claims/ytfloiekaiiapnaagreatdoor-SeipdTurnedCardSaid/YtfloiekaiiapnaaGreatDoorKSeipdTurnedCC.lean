/- What the claim leans on, part 3: plain theorems, and walks of functions of the program and of the document. -/
import Derived.Test.YtfloiekaiiapnaaGreatDoorKSeipdTurnedCB
import Derived.Lib.AppendZerosOnto
import Derived.Test.YtfloiekaiiapnaaGreatDoorKSeipdTurnedCA
import Derived.Lib.Builder
import Derived.Lib.UnsafeStr
import Derived.Lib.MakeNoZero
import Derived.Lib.AppendStr
import Derived.Laws.Externs
namespace Go.Proofs.YtfloiekaiiapnaaGreatDoor
open Go Go.RowKit
set_option maxRecDepth 100000

set_option maxHeartbeats 8000000 in
theorem rsum_c (A : Option Addr) (n c : Nat) (l : List UInt8) (hb : n ≤ 140737488351232) : Pure Tryz.prog 68 #[(.slice A n c)] (fun w => Vu cByte w A n c l) ((cArr 32).val (sha l)) := by
  refine pure_of (fn := Tryz.f68) Tryz.func68 rfl Tryz.ntmps68 (Nat.le_of_ble_eq_true rfl) rfl ?_
  intro w0 hH hR
  have hn := hR.len
  have hnb := nb32_ge n
  obtain ⟨F, hF⟩ : ∃ F, F = pad32 n fun j => l.getD j 0 := ⟨_, rfl⟩
  have hM : ∀ j, j < 64 * nb32 n → (pdM l)[j]? = some (F j) := fun j hj => by rw [hF]; subst hn; exact lst_get hj
  refine zr ?_
  refine zm hH (.al (cArr 32) (fun _ => 0)) trivial 0 ?_
  clear hH
  rintro _ _ w ⟨g1, rfl, rfl⟩ hH
  refine zn ?_
  refine zr ?_
  refine zv (v := ((cWs 8).val H32)) (fun _ _ hF => opBuildP (cells := (cWs 8).enc H32) (vals := [(0, (.int .u32 1779033703)), (1, (.int .u32 3144134277)), (2, (.int .u32 1013904242)), (3, (.int .u32 2773480762)), (4, (.int .u32 1359893119)), (5, (.int .u32 2600822924)), (6, (.int .u32 528734635)), (7, (.int .u32 1541459225))]) rfl (EvP.cons (v := (.int .u32 1779033703)) rfl (EvP.cons (v := (.int .u32 3144134277)) rfl (EvP.cons (v := (.int .u32 1013904242)) rfl (EvP.cons (v := (.int .u32 2773480762)) rfl (EvP.cons (v := (.int .u32 1359893119)) rfl (EvP.cons (v := (.int .u32 2600822924)) rfl (EvP.cons (v := (.int .u32 528734635)) rfl (EvP.cons (v := (.int .u32 1541459225)) rfl EvP.nil)))))))) (by kernel_rfl) _) 0 ?_
  refine zm hH (.al (cWs 8) (fun _ => 0)) trivial 0 ?_
  clear hH
  rintro _ _ w ⟨g2, rfl, rfl⟩ hH
  refine ze0 1 hH rfl (.sw (cWs 8) (fun _ => 0) H32) trivial ?_
  clear hH
  rintro _ _ w rfl hH
  refine zn ?_
  refine zr ?_
  refine zc Tryz.func84 (rk_c ) trivial hH 2 ?_
  clear hH
  intro w hH
  refine zm hH (.al (cWs 64) (fun _ => 0)) trivial 0 ?_
  clear hH
  rintro _ _ w ⟨g3, rfl, rfl⟩ hH
  refine ze0 2 hH rfl (.sw (cWs 64) (fun _ => 0) K32) trivial ?_
  clear hH
  rintro _ _ w rfl hH
  refine zn ?_
  refine zr ?_
  refine zv .mv 18 ?_
  refine zm hH (.call Tryz.func85 ((rpad_c A n c l hb))) (hH.vu hR (by decide) (Off.nil _ _)) 1 ?_
  clear hH
  rintro v8 E4 w hO5 hH
  obtain ⟨A6, c7, rfl⟩ := hO5.slice
  refine zv .mv 1 ?_
  refine zn ?_
  refine cxSeq ?_
  have hlM := pdM_len l
  rw [hn] at hlM
  obtain ⟨g10, cap11, cur12, hv14, rfl, hB13⟩ := hO5.open (by omega)
  obtain ⟨rfl, rfl⟩ : A6 = some ⟨g10, 0, none⟩ ∧ c7 = cap11 := by injection hv14 with h1 h2 h3; exact ⟨h1, h3⟩
  have := hB13.le
  have he15 : (cWs 8).enc (hs32 F 0) = (cWs 8).enc H32 := vec_congr (fun _ _ => rfl)
  replace hH : HH w0 [] [[bl g1 22 ((cArr 32).enc (fun _ => 0))], [bl g2 115 ((cWs 8).enc (hs32 F 0))], [bl g3 125 ((cWs 64).enc K32)], [bl g10 5 cur12]] w := by rw [he15]; exact hH
  refine zr ?_
  refine zv .mv 0 ?_
  refine zn ?_
  refine cxBlock ?_
  refine zL1 (fun (i : Nat) => [(6, (.int .i64 (((64 * i) : Nat) : Int))), (5, (.slice (some ⟨g10, 0, none⟩) ((pdM l).length) c7)), (4, (.pointer (some ⟨g3, 0, none⟩))), (3, (.pointer (some ⟨g2, 0, none⟩))), (2, (.pointer (some ⟨g1, 0, none⟩)))]) (fun i w => HH w0 [] [[bl g1 22 ((cArr 32).enc (fun _ => 0))], [bl g2 115 ((cWs 8).enc (hs32 F i))], [bl g3 125 ((cWs 64).enc K32)], [bl g10 5 cur12]] w ∧ (i ≤ nb32 n)) (fun i => nb32 n - i) 0 ⟨hH, (Nat.zero_le _)⟩ ?_
  clear hH
  rintro i w ⟨hH, hi⟩
  refine cxSeq ?_
  refine zr ?_
  refine zv .mv 0 ?_
  refine zv .mv 0 ?_
  refine zv .len 1 ?_
  refine zv (.lt (64 * i < (pdM l).length)) 3 ?_
  refine zn ?_
  refine zP (fun hc16 => ?_) (fun hc16 => ?_)
  refine cxSkip ?_
  refine qxThen ?_
  refine cxSeq ?_
  refine cxBlock ?_
  refine zr ?_
  refine zm hH (.al (cWs 64) (fun _ => 0)) trivial 1 ?_
  clear hH
  rintro _ _ w ⟨g17, rfl, rfl⟩ hH
  refine zn ?_
  refine cxSeq ?_
  have he18 : (cWs 64).enc (upF 0 (W32 (blkF F i)) (fun _ => 0)) = (cWs 64).enc (fun _ => 0) := vec_congr (fun _ _ => by rw [upF_zero])
  replace hH : HH w0 [] [[bl g1 22 ((cArr 32).enc (fun _ => 0))], [bl g2 115 ((cWs 8).enc (hs32 F i))], [bl g3 125 ((cWs 64).enc K32)], [bl g10 5 cur12], [bl g17 125 ((cWs 64).enc (upF 0 (W32 (blkF F i)) (fun _ => 0)))]] w := by rw [he18]; exact hH
  refine zr ?_
  refine zv .mv 0 ?_
  refine zn ?_
  refine cxBlock ?_
  refine zL1 (fun (q : Nat) => [(31, (.int .i64 (((q) : Nat) : Int))), (7, (.pointer (some ⟨g17, 0, none⟩))), (6, (.int .i64 (((64 * i) : Nat) : Int))), (5, (.slice (some ⟨g10, 0, none⟩) ((pdM l).length) c7)), (4, (.pointer (some ⟨g3, 0, none⟩))), (3, (.pointer (some ⟨g2, 0, none⟩))), (2, (.pointer (some ⟨g1, 0, none⟩)))]) (fun q w => HH w0 [] [[bl g1 22 ((cArr 32).enc (fun _ => 0))], [bl g2 115 ((cWs 8).enc (hs32 F i))], [bl g3 125 ((cWs 64).enc K32)], [bl g10 5 cur12], [bl g17 125 ((cWs 64).enc (upF q (W32 (blkF F i)) (fun _ => 0)))]] w ∧ (q ≤ 16)) (fun q => 16 - q) 0 ⟨hH, (Nat.zero_le _)⟩ ?_
  clear hH
  rintro q w ⟨hH, hq⟩
  refine zr ?_
  refine zv (.lt (q < 16)) 0 ?_
  refine zn ?_
  refine cxSeq ?_
  refine zP (fun hc19 => ?_) (fun hc19 => ?_)
  refine cxSkip ?_
  refine qxThen ?_
  refine cxSeq ?_
  refine cxBlock ?_
  refine zr ?_
  refine zv .mv 1 ?_
  refine zv .mv 1 ?_
  refine zn ?_
  have hx00 : (pdM l)[64 * i + 4 * q]? = some ((blkF F i) (4 * q)) := hM _ (by omega)
  have hb00 := UInt8.toNat_lt ((blkF F i) (4 * q))
  have hx01 : (pdM l)[64 * i + (4 * q + 1)]? = some ((blkF F i) (4 * q + 1)) := hM _ (by omega)
  have hb01 := UInt8.toNat_lt ((blkF F i) (4 * q + 1))
  have hx02 : (pdM l)[64 * i + (4 * q + 2)]? = some ((blkF F i) (4 * q + 2)) := hM _ (by omega)
  have hb02 := UInt8.toNat_lt ((blkF F i) (4 * q + 2))
  have hx03 : (pdM l)[64 * i + (4 * q + 3)]? = some ((blkF F i) (4 * q + 3)) := hM _ (by omega)
  have hb03 := UInt8.toNat_lt ((blkF F i) (4 * q + 3))
  refine cxRegX mixedOrders (by kernel_rfl) ?_
  replace hH := hH.drew
  refine rv 0 .mv 0 ?_
  refine rv 1 .mv 0 ?_
  refine rv 2 .mv 0 ?_
  refine rv 3 .mv 0 ?_
  refine rv 4 (.mul ((4 * q : Nat) : Int)) 1 ?_
  refine rv 5 (.add (((64 * i + 4 * q) : Nat) : Int)) 3 ?_
  have hi20 : 64 * i + 4 * q < (pdM l).length := by omega
  have hj23 : 64 * i + 4 * q < (pdM l).length := by omega
  refine rv 6 (.ix 1 (64 * i + 4 * q) (hi := hi20)) 3 ?_
  refine rld 7 (hH.q 3 rfl) (.ld cByte ((blkF F i) (4 * q)) (fun _ hS => ((hB13.holdsL hS) (64 * i + 4 * q) _ hx00))) 1 ?_
  refine rv 8 (.cu .u32) 1 ?_
  refine rv 9 (v := (.int .u32 (((((blkF F i) (4 * q)).toNat * 16777216) : Nat) : Int))) (fun _ _ hF => opShlU (n := 24) (z := (((blkF F i) (4 * q)).toNat * 16777216)) rfl rfl (hF.ev 0 rfl) rfl (leb rfl) (by show (((blkF F i) (4 * q)).toNat * 2 ^ 24) % 4294967296 = _; omega)) 1 ?_
  refine rv 10 .mv 0 ?_
  refine rv 11 .mv 0 ?_
  refine rv 12 .mv 0 ?_
  refine rv 13 (.mul ((4 * q : Nat) : Int)) 1 ?_
  refine rv 14 (.add (((64 * i) + (4 * q) : Nat) : Int)) 3 ?_
  refine rv 15 (.add (((64 * i + (4 * q + 1)) : Nat) : Int)) 1 ?_
  have hi24 : 64 * i + (4 * q + 1) < (pdM l).length := by omega
  have hj27 : 64 * i + (4 * q + 1) < (pdM l).length := by omega
  refine rv 16 (.ix 1 (64 * i + (4 * q + 1)) (hi := hi24)) 3 ?_
  refine rld 17 (hH.q 3 rfl) (.ld cByte ((blkF F i) (4 * q + 1)) (fun _ hS => ((hB13.holdsL hS) (64 * i + (4 * q + 1)) _ hx01))) 1 ?_
  refine rv 18 (.cu .u32) 1 ?_
  refine rv 19 (v := (.int .u32 (((((blkF F i) (4 * q + 1)).toNat * 65536) : Nat) : Int))) (fun _ _ hF => opShlU (n := 16) (z := (((blkF F i) (4 * q + 1)).toNat * 65536)) rfl rfl (hF.ev 0 rfl) rfl (leb rfl) (by show (((blkF F i) (4 * q + 1)).toNat * 2 ^ 16) % 4294967296 = _; omega)) 1 ?_
  refine rv 20 (v := (.int .u32 (((((blkF F i) (4 * q)).toNat * 16777216 + ((blkF F i) (4 * q + 1)).toNat * 65536) : Nat) : Int))) (fun _ _ hF => opOrU (m := ((blkF F i) (4 * q)).toNat * 16777216) (j := ((blkF F i) (4 * q + 1)).toNat * 65536) (z := (((blkF F i) (4 * q)).toNat * 16777216 + ((blkF F i) (4 * q + 1)).toNat * 65536)) rfl rfl (hF.ev 1 rfl) (hF.ev 0 rfl) (by show _ < 4294967296; omega) (by show _ < 4294967296; omega) (by rw [show ((blkF F i) (4 * q)).toNat * 16777216 = ((blkF F i) (4 * q)).toNat * 2 ^ 24 by omega, or_addk (show ((blkF F i) (4 * q + 1)).toNat * 65536 < 2 ^ 24 by omega)])) 3 ?_
  refine rv 21 .mv 0 ?_
  refine rv 22 .mv 0 ?_
  refine rv 23 .mv 0 ?_
  refine rv 24 (.mul ((4 * q : Nat) : Int)) 1 ?_
  refine rv 25 (.add (((64 * i) + (4 * q) : Nat) : Int)) 3 ?_
  refine rv 26 (.add (((64 * i + (4 * q + 2)) : Nat) : Int)) 1 ?_
  have hi28 : 64 * i + (4 * q + 2) < (pdM l).length := by omega
  have hj31 : 64 * i + (4 * q + 2) < (pdM l).length := by omega
  refine rv 27 (.ix 1 (64 * i + (4 * q + 2)) (hi := hi28)) 3 ?_
  refine rld 28 (hH.q 3 rfl) (.ld cByte ((blkF F i) (4 * q + 2)) (fun _ hS => ((hB13.holdsL hS) (64 * i + (4 * q + 2)) _ hx02))) 1 ?_
  refine rv 29 (.cu .u32) 1 ?_
  refine rv 30 (v := (.int .u32 (((((blkF F i) (4 * q + 2)).toNat * 256) : Nat) : Int))) (fun _ _ hF => opShlU (n := 8) (z := (((blkF F i) (4 * q + 2)).toNat * 256)) rfl rfl (hF.ev 0 rfl) rfl (leb rfl) (by show (((blkF F i) (4 * q + 2)).toNat * 2 ^ 8) % 4294967296 = _; omega)) 1 ?_
  refine rv 31 (v := (.int .u32 (((((blkF F i) (4 * q)).toNat * 16777216 + ((blkF F i) (4 * q + 1)).toNat * 65536 + ((blkF F i) (4 * q + 2)).toNat * 256) : Nat) : Int))) (fun _ _ hF => opOrU (m := ((blkF F i) (4 * q)).toNat * 16777216 + ((blkF F i) (4 * q + 1)).toNat * 65536) (j := ((blkF F i) (4 * q + 2)).toNat * 256) (z := (((blkF F i) (4 * q)).toNat * 16777216 + ((blkF F i) (4 * q + 1)).toNat * 65536 + ((blkF F i) (4 * q + 2)).toNat * 256)) rfl rfl (hF.ev 1 rfl) (hF.ev 0 rfl) (by show _ < 4294967296; omega) (by show _ < 4294967296; omega) (by rw [show ((blkF F i) (4 * q)).toNat * 16777216 + ((blkF F i) (4 * q + 1)).toNat * 65536 = (((blkF F i) (4 * q)).toNat * 256 + ((blkF F i) (4 * q + 1)).toNat) * 2 ^ 16 by omega, or_addk (show ((blkF F i) (4 * q + 2)).toNat * 256 < 2 ^ 16 by omega)])) 3 ?_
  refine rv 32 .mv 0 ?_
  refine rv 33 .mv 0 ?_
  refine rv 34 .mv 16 ?_
  refine rv 35 (.mul ((4 * q : Nat) : Int)) 1 ?_
  refine rv 36 (.add (((64 * i) + (4 * q) : Nat) : Int)) 3 ?_
  refine rv 37 (.add (((64 * i + (4 * q + 3)) : Nat) : Int)) 1 ?_
  have hi32 : 64 * i + (4 * q + 3) < (pdM l).length := by omega
  have hj35 : 64 * i + (4 * q + 3) < (pdM l).length := by omega
  refine rv 38 (.ix 1 (64 * i + (4 * q + 3)) (hi := hi32)) 3 ?_
  refine rld 39 (hH.q 3 rfl) (.ld cByte ((blkF F i) (4 * q + 3)) (fun _ hS => ((hB13.holdsL hS) (64 * i + (4 * q + 3)) _ hx03))) 1 ?_
  refine rv 40 (.cu .u32) 1 ?_
  refine rv 41 (v := (.int .u32 (((((blkF F i) (4 * q)).toNat * 16777216 + ((blkF F i) (4 * q + 1)).toNat * 65536 + ((blkF F i) (4 * q + 2)).toNat * 256 + ((blkF F i) (4 * q + 3)).toNat) : Nat) : Int))) (fun _ _ hF => opOrU (m := ((blkF F i) (4 * q)).toNat * 16777216 + ((blkF F i) (4 * q + 1)).toNat * 65536 + ((blkF F i) (4 * q + 2)).toNat * 256) (j := ((blkF F i) (4 * q + 3)).toNat) (z := (((blkF F i) (4 * q)).toNat * 16777216 + ((blkF F i) (4 * q + 1)).toNat * 65536 + ((blkF F i) (4 * q + 2)).toNat * 256 + ((blkF F i) (4 * q + 3)).toNat)) rfl rfl (hF.ev 1 rfl) (hF.ev 0 rfl) (by show _ < 4294967296; omega) (by show _ < 4294967296; omega) (by rw [show ((blkF F i) (4 * q)).toNat * 16777216 + ((blkF F i) (4 * q + 1)).toNat * 65536 + ((blkF F i) (4 * q + 2)).toNat * 256 = (((blkF F i) (4 * q)).toNat * 65536 + ((blkF F i) (4 * q + 1)).toNat * 256 + ((blkF F i) (4 * q + 2)).toNat) * 2 ^ 8 by omega, or_addk (show ((blkF F i) (4 * q + 3)).toNat < 2 ^ 8 by omega)])) 3 ?_
  have hi36 : q < 64 := by omega
  refine rv 42 (.ia 1 64 q (hi := hi36)) 2 ?_
  refine rx1k 43 ?_
  refine re0 43 4 hH rfl (.st cWd (UInt32.ofNat (((blkF F i) (4 * q)).toNat * 16777216 + ((blkF F i) (4 * q + 1)).toNat * 65536 + ((blkF F i) (4 * q + 2)).toNat * 256 + ((blkF F i) (4 * q + 3)).toNat)) (room_1 (S := sWd) (C := (cWs 64)) rfl hi36) (vec_set0 (upF q (W32 (blkF F i)) (fun _ => 0)) (UInt32.ofNat (((blkF F i) (4 * q)).toNat * 16777216 + ((blkF F i) (4 * q + 1)).toNat * 65536 + ((blkF F i) (4 * q + 2)).toNat * 256 + ((blkF F i) (4 * q + 3)).toNat)) hi36) (hv := wd_val (by omega))) trivial (pgo [] (pgo [] (pgo [] (pgo [] (.nil _ []))))) ?_
  clear hH
  rintro _ _ w rfl hH
  refine ⟨pnil, ?_⟩
  refine rxEnd (by kernel_rfl) ?_
  refine qxInN ?_
  refine qxThen ?_
  refine cxReg ?_
  refine zv (.add ((q + 1 : Nat) : Int)) 7 ?_
  refine zv .mv 1 ?_
  refine pxEnd ?_
  have he37 : (cWs 64).enc (upF (q + 1) (W32 (blkF F i)) (fun _ => 0)) = (cWs 64).enc (stF (upF q (W32 (blkF F i)) (fun _ => 0)) q (UInt32.ofNat (((blkF F i) (4 * q)).toNat * 16777216 + ((blkF F i) (4 * q + 1)).toNat * 65536 + ((blkF F i) (4 * q + 2)).toNat * 256 + ((blkF F i) (4 * q + 3)).toNat))) := vec_congr (fun j _ => (congrFun (upF_step q (W32 (blkF F i)) (fun _ => 0) (up_low (show q < 16 by omega))) j).symm)
  replace hH : HH w0 [] [[bl g1 22 ((cArr 32).enc (fun _ => 0))], [bl g2 115 ((cWs 8).enc (hs32 F i))], [bl g3 125 ((cWs 64).enc K32)], [bl g10 5 cur12], [bl g17 125 ((cWs 64).enc (upF (q + 1) (W32 (blkF F i)) (fun _ => 0)))]] w := by rw [he37]; exact hH
  exact zR1 (q + 1) ⟨hH, (by omega)⟩ (by omega)
  refine cxExit ?_
  refine qxThenE ?_
  refine qxThenE ?_
  refine qxInE ?_
  refine qxThen ?_
  refine cxSeq ?_
  obtain rfl : q = 16 := by omega
  refine zr ?_
  refine zv .mv 3 ?_
  refine zn ?_
  refine cxBlock ?_
  refine zL1 (fun (q : Nat) => [(9, (.int .i64 (((q) : Nat) : Int))), (7, (.pointer (some ⟨g17, 0, none⟩))), (6, (.int .i64 (((64 * i) : Nat) : Int))), (5, (.slice (some ⟨g10, 0, none⟩) ((pdM l).length) c7)), (4, (.pointer (some ⟨g3, 0, none⟩))), (3, (.pointer (some ⟨g2, 0, none⟩))), (2, (.pointer (some ⟨g1, 0, none⟩)))]) (fun q w => HH w0 [] [[bl g1 22 ((cArr 32).enc (fun _ => 0))], [bl g2 115 ((cWs 8).enc (hs32 F i))], [bl g3 125 ((cWs 64).enc K32)], [bl g10 5 cur12], [bl g17 125 ((cWs 64).enc (upF q (W32 (blkF F i)) (fun _ => 0)))]] w ∧ (16 ≤ q) ∧ (q ≤ 64)) (fun q => 64 - q) 16 ⟨hH, (Nat.le_refl _), (by decide)⟩ ?_
  clear hH
  rintro q w ⟨hH, hq, hq2⟩
  refine cxSeq ?_
  refine zr ?_
  refine zv .mv 0 ?_
  refine zv (.lt (q < 64)) 1 ?_
  refine zn ?_
  refine zP (fun hc38 => ?_) (fun hc38 => ?_)
  refine cxSkip ?_
  refine qxThen ?_
  refine cxSeq ?_
  refine cxBlock ?_
  refine zx ?_
  replace hH := hH.drew
  refine rv 0 .mv 1 ?_
  refine rv 1 (.sub (((q - 2) : Nat) : Int)) 1 ?_
  have hi39 : q - 2 < 64 := by omega
  refine rv 2 (.ia 1 64 (q - 2) (hi := hi39)) 1 ?_
  refine rld 3 (hH.q 4 rfl) (.ld cWd ((upF q (W32 (blkF F i)) (fun _ => 0)) (q - 2)) (fun _ hS => ((holds_blk0 hS).eltV hi39))) 1 ?_
  refine rv 5 .mv 0 ?_
  refine rv 6 (.sub (((q - 2) : Nat) : Int)) 1 ?_
  have hi40 : q - 2 < 64 := by omega
  refine rv 7 (.ia 1 64 (q - 2) (hi := hi40)) 1 ?_
  refine rld 8 (hH.q 4 rfl) (.ld cWd ((upF q (W32 (blkF F i)) (fun _ => 0)) (q - 2)) (fun _ hS => ((holds_blk0 hS).eltV hi40))) 1 ?_
  refine rv 11 .mv 0 ?_
  refine rv 12 (.sub (((q - 2) : Nat) : Int)) 1 ?_
  have hi41 : q - 2 < 64 := by omega
  refine rv 13 (.ia 1 64 (q - 2) (hi := hi41)) 1 ?_
  refine rld 14 (hH.q 4 rfl) (.ld cWd ((upF q (W32 (blkF F i)) (fun _ => 0)) (q - 2)) (fun _ hS => ((holds_blk0 hS).eltV hi41))) 1 ?_
  refine rv 15 (.rw 10) 1 ?_
  refine rx1k 4 (rpc 4 Tryz.func86 (rrot_c ((upF q (W32 (blkF F i)) (fun _ => 0)) (q - 2)) 17 (ltb rfl) (ltb rfl)) trivial hH 4 (.keep (.keep (pgo [] (.nil _ [])))) ?_)
  clear hH
  intro w hH
  refine ⟨pcons (hH.blk 4 rfl) (pcons (hH.blk 4 rfl) pnil), ?_⟩
  refine rx1k 9 (rpc 9 Tryz.func86 (rrot_c ((upF q (W32 (blkF F i)) (fun _ => 0)) (q - 2)) 19 (ltb rfl) (ltb rfl)) trivial hH 4 (.keep (pgo [] (.nil _ []))) ?_)
  clear hH
  intro w hH
  refine ⟨pcons (hH.blk 4 rfl) pnil, ?_⟩
  refine rv 10 (.xw (xo32 (rr32 ((upF q (W32 (blkF F i)) (fun _ => 0)) (q - 2)) 17) (rr32 ((upF q (W32 (blkF F i)) (fun _ => 0)) (q - 2)) 19))) 3 ?_
  refine rv 16 (.xw (sml1_32 (upF q (W32 (blkF F i)) (fun _ => 0) (q - 2)))) 3 ?_
  refine rv 17 .mv 1 ?_
  refine rn ?_
  refine zx ?_
  replace hH := hH.drew
  refine rv 0 .mv 0 ?_
  refine rv 1 (.sub (((q - 15) : Nat) : Int)) 1 ?_
  have hi42 : q - 15 < 64 := by omega
  refine rv 2 (.ia 1 64 (q - 15) (hi := hi42)) 1 ?_
  refine rld 3 (hH.q 4 rfl) (.ld cWd ((upF q (W32 (blkF F i)) (fun _ => 0)) (q - 15)) (fun _ hS => ((holds_blk0 hS).eltV hi42))) 1 ?_
  refine rv 5 .mv 0 ?_
  refine rv 6 (.sub (((q - 15) : Nat) : Int)) 1 ?_
  have hi43 : q - 15 < 64 := by omega
  refine rv 7 (.ia 1 64 (q - 15) (hi := hi43)) 1 ?_
  refine rld 8 (hH.q 4 rfl) (.ld cWd ((upF q (W32 (blkF F i)) (fun _ => 0)) (q - 15)) (fun _ hS => ((holds_blk0 hS).eltV hi43))) 1 ?_
  refine rv 11 .mv 0 ?_
  refine rv 12 (.sub (((q - 15) : Nat) : Int)) 1 ?_
  have hi44 : q - 15 < 64 := by omega
  refine rv 13 (.ia 1 64 (q - 15) (hi := hi44)) 1 ?_
  refine rld 14 (hH.q 4 rfl) (.ld cWd ((upF q (W32 (blkF F i)) (fun _ => 0)) (q - 15)) (fun _ hS => ((holds_blk0 hS).eltV hi44))) 1 ?_
  refine rv 15 (.rw 3) 1 ?_
  refine rx1k 4 (rpc 4 Tryz.func86 (rrot_c ((upF q (W32 (blkF F i)) (fun _ => 0)) (q - 15)) 7 (ltb rfl) (ltb rfl)) trivial hH 4 (.keep (.keep (pgo [] (.nil _ [])))) ?_)
  clear hH
  intro w hH
  refine ⟨pcons (hH.blk 4 rfl) (pcons (hH.blk 4 rfl) pnil), ?_⟩
  refine rx1k 9 (rpc 9 Tryz.func86 (rrot_c ((upF q (W32 (blkF F i)) (fun _ => 0)) (q - 15)) 18 (ltb rfl) (ltb rfl)) trivial hH 4 (.keep (pgo [] (.nil _ []))) ?_)
  clear hH
  intro w hH
  refine ⟨pcons (hH.blk 4 rfl) pnil, ?_⟩
  refine rv 10 (.xw (xo32 (rr32 ((upF q (W32 (blkF F i)) (fun _ => 0)) (q - 15)) 7) (rr32 ((upF q (W32 (blkF F i)) (fun _ => 0)) (q - 15)) 18))) 3 ?_
  refine rv 16 (.xw (sml0_32 (upF q (W32 (blkF F i)) (fun _ => 0) (q - 15)))) 3 ?_
  refine rv 17 .mv 1 ?_
  refine rn ?_
  refine cxRegX mixedOrders (by kernel_rfl) ?_
  replace hH := hH.drew
  refine rv 0 .mv 0 ?_
  refine rv 1 .mv 4 ?_
  refine rv 2 .mv 0 ?_
  refine rv 3 (.sub (((q - 7) : Nat) : Int)) 1 ?_
  have hi45 : q - 7 < 64 := by omega
  refine rv 4 (.ia 1 64 (q - 7) (hi := hi45)) 1 ?_
  refine rld 5 (hH.q 4 rfl) (.ld cWd ((upF q (W32 (blkF F i)) (fun _ => 0)) (q - 7)) (fun _ hS => ((holds_blk0 hS).eltV hi45))) 1 ?_
  refine rv 6 (.aw (pl32 (sml1_32 (upF q (W32 (blkF F i)) (fun _ => 0) (q - 2))) ((upF q (W32 (blkF F i)) (fun _ => 0)) (q - 7)))) 3 ?_
  refine rv 7 .mv 4 ?_
  refine rv 8 (.aw (pl32 (pl32 (sml1_32 (upF q (W32 (blkF F i)) (fun _ => 0) (q - 2))) (upF q (W32 (blkF F i)) (fun _ => 0) (q - 7))) (sml0_32 (upF q (W32 (blkF F i)) (fun _ => 0) (q - 15))))) 3 ?_
  refine rv 9 .mv 0 ?_
  refine rv 10 (.sub (((q - 16) : Nat) : Int)) 1 ?_
  have hi46 : q - 16 < 64 := by omega
  refine rv 11 (.ia 1 64 (q - 16) (hi := hi46)) 1 ?_
  refine rld 12 (hH.q 4 rfl) (.ld cWd ((upF q (W32 (blkF F i)) (fun _ => 0)) (q - 16)) (fun _ hS => ((holds_blk0 hS).eltV hi46))) 1 ?_
  refine rv 13 (.aw (pl32 (pl32 (pl32 (sml1_32 (upF q (W32 (blkF F i)) (fun _ => 0) (q - 2))) (upF q (W32 (blkF F i)) (fun _ => 0) (q - 7))) (sml0_32 (upF q (W32 (blkF F i)) (fun _ => 0) (q - 15)))) ((upF q (W32 (blkF F i)) (fun _ => 0)) (q - 16)))) 3 ?_
  have hi47 : q < 64 := by omega
  refine rv 14 (.ia 1 64 q (hi := hi47)) 2 ?_
  refine rx1k 15 ?_
  refine re0 15 4 hH rfl (.st cWd (pl32 (pl32 (pl32 (sml1_32 (upF q (W32 (blkF F i)) (fun _ => 0) (q - 2))) (upF q (W32 (blkF F i)) (fun _ => 0) (q - 7))) (sml0_32 (upF q (W32 (blkF F i)) (fun _ => 0) (q - 15)))) ((upF q (W32 (blkF F i)) (fun _ => 0)) (q - 16))) (room_1 (S := sWd) (C := (cWs 64)) rfl hi47) (vec_set0 (upF q (W32 (blkF F i)) (fun _ => 0)) (pl32 (pl32 (pl32 (sml1_32 (upF q (W32 (blkF F i)) (fun _ => 0) (q - 2))) (upF q (W32 (blkF F i)) (fun _ => 0) (q - 7))) (sml0_32 (upF q (W32 (blkF F i)) (fun _ => 0) (q - 15)))) ((upF q (W32 (blkF F i)) (fun _ => 0)) (q - 16))) hi47)) trivial (pgo [] (pgo [] (.nil _ []))) ?_
  clear hH
  rintro _ _ w rfl hH
  refine ⟨pnil, ?_⟩
  refine rxEnd (by kernel_rfl) ?_
  refine qxInN ?_
  refine qxThen ?_
  refine cxReg ?_
  refine zv .mv 7 ?_
  refine zv (.add ((q + 1 : Nat) : Int)) 1 ?_
  refine zv .mv 1 ?_
  refine pxEnd ?_
  have he48 : (cWs 64).enc (upF (q + 1) (W32 (blkF F i)) (fun _ => 0)) = (cWs 64).enc (stF (upF q (W32 (blkF F i)) (fun _ => 0)) q (pl32 (pl32 (pl32 (sml1_32 (upF q (W32 (blkF F i)) (fun _ => 0) (q - 2))) (upF q (W32 (blkF F i)) (fun _ => 0) (q - 7))) (sml0_32 (upF q (W32 (blkF F i)) (fun _ => 0) (q - 15)))) ((upF q (W32 (blkF F i)) (fun _ => 0)) (q - 16)))) := vec_congr (fun j _ => (congrFun (upF_step q (W32 (blkF F i)) (fun _ => 0) (up_word hq)) j).symm)
  replace hH : HH w0 [] [[bl g1 22 ((cArr 32).enc (fun _ => 0))], [bl g2 115 ((cWs 8).enc (hs32 F i))], [bl g3 125 ((cWs 64).enc K32)], [bl g10 5 cur12], [bl g17 125 ((cWs 64).enc (upF (q + 1) (W32 (blkF F i)) (fun _ => 0)))]] w := by rw [he48]; exact hH
  exact zR1 (q + 1) ⟨hH, (by omega), (by omega)⟩ (by omega)
  refine cxExit ?_
  refine qxThenE ?_
  refine qxThenE ?_
  refine qxInE ?_
  refine qxThen ?_
  obtain rfl : q = 64 := by omega
  have he49 : (cWs 64).enc (W32 (blkF F i)) = (cWs 64).enc (upF 64 (W32 (blkF F i)) (fun _ => 0)) := vec_congr (fun j hj => (upF_lt _ _ hj).symm)
  replace hH : HH w0 [] [[bl g1 22 ((cArr 32).enc (fun _ => 0))], [bl g2 115 ((cWs 8).enc (hs32 F i))], [bl g3 125 ((cWs 64).enc K32)], [bl g10 5 cur12], [bl g17 125 ((cWs 64).enc (W32 (blkF F i)))]] w := by rw [he49]; exact hH
  refine zr ?_
  refine zs (hH.q 1 rfl) (.ld (cWs 8) (hs32 F i) (fun _ hS => (holds_blk0 hS))) 3 ?_
  refine zm hH (.al (cWs 8) (fun _ => 0)) trivial 0 ?_
  clear hH
  rintro _ _ w ⟨g50, rfl, rfl⟩ hH
  refine ze0 5 hH rfl (.sw (cWs 8) (fun _ => 0) (hs32 F i)) trivial ?_
  clear hH
  rintro _ _ w rfl hH
  refine zn ?_
  refine cxSeq ?_
  have he51 : (cWs 8).enc (rnd32 (blkF F i) (hs32 F i) 0) = (cWs 8).enc (hs32 F i) := vec_congr (fun _ _ => rfl)
  replace hH : HH w0 [] [[bl g1 22 ((cArr 32).enc (fun _ => 0))], [bl g2 115 ((cWs 8).enc (hs32 F i))], [bl g3 125 ((cWs 64).enc K32)], [bl g10 5 cur12], [bl g17 125 ((cWs 64).enc (W32 (blkF F i)))], [bl g50 115 ((cWs 8).enc (rnd32 (blkF F i) (hs32 F i) 0))]] w := by rw [he51]; exact hH
  refine zr ?_
  refine zv .mv 2 ?_
  refine zn ?_
  refine cxBlock ?_
  refine zL1 (fun (q : Nat) => [(132, (.int .i64 (((q) : Nat) : Int))), (12, (.pointer (some ⟨g50, 0, none⟩))), (7, (.pointer (some ⟨g17, 0, none⟩))), (6, (.int .i64 (((64 * i) : Nat) : Int))), (5, (.slice (some ⟨g10, 0, none⟩) ((pdM l).length) c7)), (4, (.pointer (some ⟨g3, 0, none⟩))), (3, (.pointer (some ⟨g2, 0, none⟩))), (2, (.pointer (some ⟨g1, 0, none⟩)))]) (fun q w => HH w0 [] [[bl g1 22 ((cArr 32).enc (fun _ => 0))], [bl g2 115 ((cWs 8).enc (hs32 F i))], [bl g3 125 ((cWs 64).enc K32)], [bl g10 5 cur12], [bl g17 125 ((cWs 64).enc (W32 (blkF F i)))], [bl g50 115 ((cWs 8).enc (rnd32 (blkF F i) (hs32 F i) q))]] w ∧ (q ≤ 64)) (fun q => 64 - q) 0 ⟨hH, (Nat.zero_le _)⟩ ?_
  clear hH
  rintro q w ⟨hH, hq⟩
  refine zr ?_
  refine zv (.lt (q < 64)) 0 ?_
  refine zn ?_
  refine cxSeq ?_
  refine zP (fun hc52 => ?_) (fun hc52 => ?_)
  refine cxSkip ?_
  refine qxThen ?_
  refine cxSeq ?_
  refine cxBlock ?_
  refine zr ?_
  refine zv .mv 1 ?_
  refine zv .mv 1 ?_
  refine zn ?_
  refine zx ?_
  replace hH := hH.drew
  have hi53 : 4 < 8 := by omega
  refine rv 0 (.ia 1 8 4 (hi := hi53)) 0 ?_
  refine rld 1 (hH.q 5 rfl) (.ld cWd ((rnd32 (blkF F i) (hs32 F i) q) 4) (fun _ hS => ((holds_blk0 hS).eltV hi53))) 1 ?_
  have hi54 : 0 < 8 := by omega
  refine rv 2 (.ia 1 8 0 (hi := hi54)) 0 ?_
  refine rld 3 (hH.q 5 rfl) (.ld cWd ((rnd32 (blkF F i) (hs32 F i) q) 0) (fun _ hS => ((holds_blk0 hS).eltV hi54))) 1 ?_
  refine rv 4 .mv 2 ?_
  refine rv 5 .mv 2 ?_
  refine rn ?_
  refine zx ?_
  replace hH := hH.drew
  have hi55 : 7 < 8 := by omega
  refine rv 0 (.ia 1 8 7 (hi := hi55)) 0 ?_
  refine rld 1 (hH.q 5 rfl) (.ld cWd ((rnd32 (blkF F i) (hs32 F i) q) 7) (fun _ hS => ((holds_blk0 hS).eltV hi55))) 1 ?_
  refine rv 2 .mv 0 ?_
  refine rv 4 .mv 0 ?_
  refine rv 7 .mv 0 ?_
  refine rv 11 .mv 0 ?_
  have hi56 : 5 < 8 := by omega
  refine rv 12 (.ia 1 8 5 (hi := hi56)) 0 ?_
  refine rld 13 (hH.q 5 rfl) (.ld cWd ((rnd32 (blkF F i) (hs32 F i) q) 5) (fun _ hS => ((holds_blk0 hS).eltV hi56))) 1 ?_
  refine rv 14 (.nw (and32 ((rnd32 (blkF F i) (hs32 F i) q) 4) ((rnd32 (blkF F i) (hs32 F i) q) 5))) 3 ?_
  refine rv 15 .mv 64 ?_
  refine rv 16 .cw 1 ?_
  have hi57 : 6 < 8 := by omega
  refine rv 17 (.ia 1 8 6 (hi := hi57)) 0 ?_
  refine rld 18 (hH.q 5 rfl) (.ld cWd ((rnd32 (blkF F i) (hs32 F i) q) 6) (fun _ hS => ((holds_blk0 hS).eltV hi57))) 1 ?_
  refine rv 19 (.nw (and32 (not32 ((rnd32 (blkF F i) (hs32 F i) q) 4)) ((rnd32 (blkF F i) (hs32 F i) q) 6))) 3 ?_
  refine rv 20 (.xw (ch32 (rnd32 (blkF F i) (hs32 F i) q 4) (rnd32 (blkF F i) (hs32 F i) q 5) (rnd32 (blkF F i) (hs32 F i) q 6))) 3 ?_
  refine rv 22 .mv 0 ?_
  have hi58 : q < 64 := by omega
  refine rv 23 (.ia 1 64 q (hi := hi58)) 1 ?_
  refine rld 24 (hH.q 2 rfl) (.ld cWd (K32 q) (fun _ hS => ((holds_blk0 hS).eltV hi58))) 1 ?_
  refine rv 26 .mv 128 ?_
  have hi59 : q < 64 := by omega
  refine rv 27 (.ia 1 64 q (hi := hi59)) 1 ?_
  refine rld 28 (hH.q 4 rfl) (.ld cWd ((W32 (blkF F i)) q) (fun _ hS => ((holds_blk0 hS).eltV hi59))) 1 ?_
  refine rx1k 3 (rpc 3 Tryz.func86 (rrot_c ((rnd32 (blkF F i) (hs32 F i) q) 4) 6 (ltb rfl) (ltb rfl)) trivial hH 32 (.keep (.keep (.keep (.keep (.keep (.nil _ [])))))) ?_)
  clear hH
  intro w hH
  refine ⟨pcons (hH.blk 4 rfl) (pcons (hH.blk 2 rfl) (pcons (hH.blk 5 rfl) (pcons (hH.blk 5 rfl) (pcons (hH.blk 5 rfl) pnil)))), ?_⟩
  refine rx1k 5 (rpc 5 Tryz.func86 (rrot_c ((rnd32 (blkF F i) (hs32 F i) q) 4) 11 (ltb rfl) (ltb rfl)) trivial hH 32 (.keep (.keep (.keep (.keep (.keep (.nil _ [])))))) ?_)
  clear hH
  intro w hH
  refine ⟨pcons (hH.blk 4 rfl) (pcons (hH.blk 2 rfl) (pcons (hH.blk 5 rfl) (pcons (hH.blk 5 rfl) (pcons (hH.blk 5 rfl) pnil)))), ?_⟩
  refine rv 6 (.xw (xo32 (rr32 ((rnd32 (blkF F i) (hs32 F i) q) 4) 6) (rr32 ((rnd32 (blkF F i) (hs32 F i) q) 4) 11))) 3 ?_
  refine rx1k 8 (rpc 8 Tryz.func86 (rrot_c ((rnd32 (blkF F i) (hs32 F i) q) 4) 25 (ltb rfl) (ltb rfl)) trivial hH 16 (.keep (.keep (.keep (.keep (.keep (.nil _ [])))))) ?_)
  clear hH
  intro w hH
  refine ⟨pcons (hH.blk 4 rfl) (pcons (hH.blk 2 rfl) (pcons (hH.blk 5 rfl) (pcons (hH.blk 5 rfl) (pcons (hH.blk 5 rfl) pnil)))), ?_⟩
  refine rv 9 (.xw (big1_32 (rnd32 (blkF F i) (hs32 F i) q 4))) 3 ?_
  refine rv 10 (.aw (pl32 ((rnd32 (blkF F i) (hs32 F i) q) 7) (big1_32 (rnd32 (blkF F i) (hs32 F i) q 4)))) 17 ?_
  refine rv 21 (.aw (pl32 (pl32 ((rnd32 (blkF F i) (hs32 F i) q) 7) (big1_32 (rnd32 (blkF F i) (hs32 F i) q 4))) (ch32 (rnd32 (blkF F i) (hs32 F i) q 4) (rnd32 (blkF F i) (hs32 F i) q 5) (rnd32 (blkF F i) (hs32 F i) q 6)))) 9 ?_
  refine rv 25 (.aw (pl32 (pl32 (pl32 ((rnd32 (blkF F i) (hs32 F i) q) 7) (big1_32 (rnd32 (blkF F i) (hs32 F i) q 4))) (ch32 (rnd32 (blkF F i) (hs32 F i) q 4) (rnd32 (blkF F i) (hs32 F i) q 5) (rnd32 (blkF F i) (hs32 F i) q 6))) (K32 q))) 5 ?_
  refine rv 29 (.aw (one32 (W32 (blkF F i) q) q (rnd32 (blkF F i) (hs32 F i) q))) 3 ?_
  refine rv 30 .mv 1 ?_
  refine rn ?_
  refine zx ?_
  replace hH := hH.drew
  refine rv 0 .mv 0 ?_
  refine rv 2 .mv 0 ?_
  refine rv 5 .mv 0 ?_
  refine rv 8 .mv 0 ?_
  have hi60 : 1 < 8 := by omega
  refine rv 9 (.ia 1 8 1 (hi := hi60)) 0 ?_
  refine rld 10 (hH.q 5 rfl) (.ld cWd ((rnd32 (blkF F i) (hs32 F i) q) 1) (fun _ hS => ((holds_blk0 hS).eltV hi60))) 1 ?_
  refine rv 11 (.nw (and32 ((rnd32 (blkF F i) (hs32 F i) q) 0) ((rnd32 (blkF F i) (hs32 F i) q) 1))) 3 ?_
  refine rv 12 .mv 32 ?_
  have hi61 : 2 < 8 := by omega
  refine rv 13 (.ia 1 8 2 (hi := hi61)) 0 ?_
  refine rld 14 (hH.q 5 rfl) (.ld cWd ((rnd32 (blkF F i) (hs32 F i) q) 2) (fun _ hS => ((holds_blk0 hS).eltV hi61))) 1 ?_
  refine rv 15 (.nw (and32 ((rnd32 (blkF F i) (hs32 F i) q) 0) ((rnd32 (blkF F i) (hs32 F i) q) 2))) 3 ?_
  refine rv 16 (.xw (xo32 (and32 ((rnd32 (blkF F i) (hs32 F i) q) 0) ((rnd32 (blkF F i) (hs32 F i) q) 1)) (and32 ((rnd32 (blkF F i) (hs32 F i) q) 0) ((rnd32 (blkF F i) (hs32 F i) q) 2)))) 3 ?_
  have hi62 : 1 < 8 := by omega
  refine rv 17 (.ia 1 8 1 (hi := hi62)) 0 ?_
  refine rld 18 (hH.q 5 rfl) (.ld cWd ((rnd32 (blkF F i) (hs32 F i) q) 1) (fun _ hS => ((holds_blk0 hS).eltV hi62))) 1 ?_
  have hi63 : 2 < 8 := by omega
  refine rv 19 (.ia 1 8 2 (hi := hi63)) 0 ?_
  refine rld 20 (hH.q 5 rfl) (.ld cWd ((rnd32 (blkF F i) (hs32 F i) q) 2) (fun _ hS => ((holds_blk0 hS).eltV hi63))) 1 ?_
  refine rv 21 (.nw (and32 ((rnd32 (blkF F i) (hs32 F i) q) 1) ((rnd32 (blkF F i) (hs32 F i) q) 2))) 3 ?_
  refine rv 22 (.xw (maj32 (rnd32 (blkF F i) (hs32 F i) q 0) (rnd32 (blkF F i) (hs32 F i) q 1) (rnd32 (blkF F i) (hs32 F i) q 2))) 3 ?_
  refine rx1k 1 (rpc 1 Tryz.func86 (rrot_c ((rnd32 (blkF F i) (hs32 F i) q) 0) 2 (ltb rfl) (ltb rfl)) trivial hH 8 (.keep (.keep (.keep (.keep (.nil _ []))))) ?_)
  clear hH
  intro w hH
  refine ⟨pcons (hH.blk 5 rfl) (pcons (hH.blk 5 rfl) (pcons (hH.blk 5 rfl) (pcons (hH.blk 5 rfl) pnil))), ?_⟩
  refine rx1k 3 (rpc 3 Tryz.func86 (rrot_c ((rnd32 (blkF F i) (hs32 F i) q) 0) 13 (ltb rfl) (ltb rfl)) trivial hH 8 (.keep (.keep (.keep (.keep (.nil _ []))))) ?_)
  clear hH
  intro w hH
  refine ⟨pcons (hH.blk 5 rfl) (pcons (hH.blk 5 rfl) (pcons (hH.blk 5 rfl) (pcons (hH.blk 5 rfl) pnil))), ?_⟩
  refine rv 4 (.xw (xo32 (rr32 ((rnd32 (blkF F i) (hs32 F i) q) 0) 2) (rr32 ((rnd32 (blkF F i) (hs32 F i) q) 0) 13))) 3 ?_
  refine rx1k 6 (rpc 6 Tryz.func86 (rrot_c ((rnd32 (blkF F i) (hs32 F i) q) 0) 22 (ltb rfl) (ltb rfl)) trivial hH 4 (.keep (.keep (.keep (.keep (.nil _ []))))) ?_)
  clear hH
  intro w hH
  refine ⟨pcons (hH.blk 5 rfl) (pcons (hH.blk 5 rfl) (pcons (hH.blk 5 rfl) (pcons (hH.blk 5 rfl) pnil))), ?_⟩
  refine rv 7 (.xw (big0_32 (rnd32 (blkF F i) (hs32 F i) q 0))) 3 ?_
  refine rv 23 (.aw (two32 (rnd32 (blkF F i) (hs32 F i) q))) 3 ?_
  refine rv 24 .mv 1 ?_
  refine rn ?_
  refine cxReg ?_
  refine zv .mv 0 ?_
  refine zv .mv 2 ?_
  refine zv (.aw (pl32 (one32 (W32 (blkF F i) q) q (rnd32 (blkF F i) (hs32 F i) q)) (two32 (rnd32 (blkF F i) (hs32 F i) q)))) 3 ?_
  have hi64 : 0 < 8 := by omega
  refine zv (.ia 1 8 0 (hi := hi64)) 0 ?_
  refine zs (hH.q 5 rfl) (.ld cWd ((rnd32 (blkF F i) (hs32 F i) q) 0) (fun _ hS => ((holds_blk0 hS).eltV hi64))) 1 ?_
  have hi65 : 1 < 8 := by omega
  refine zv (.ia 1 8 1 (hi := hi65)) 0 ?_
  refine zs (hH.q 5 rfl) (.ld cWd ((rnd32 (blkF F i) (hs32 F i) q) 1) (fun _ hS => ((holds_blk0 hS).eltV hi65))) 1 ?_
  have hi66 : 2 < 8 := by omega
  refine zv (.ia 1 8 2 (hi := hi66)) 0 ?_
  refine zs (hH.q 5 rfl) (.ld cWd ((rnd32 (blkF F i) (hs32 F i) q) 2) (fun _ hS => ((holds_blk0 hS).eltV hi66))) 1 ?_
  have hi67 : 3 < 8 := by omega
  refine zv (.ia 1 8 3 (hi := hi67)) 0 ?_
  refine zs (hH.q 5 rfl) (.ld cWd ((rnd32 (blkF F i) (hs32 F i) q) 3) (fun _ hS => ((holds_blk0 hS).eltV hi67))) 1 ?_
  refine zv .mv 32 ?_
  refine zv (.aw (pl32 ((rnd32 (blkF F i) (hs32 F i) q) 3) (one32 (W32 (blkF F i) q) q (rnd32 (blkF F i) (hs32 F i) q)))) 3 ?_
  have hi68 : 4 < 8 := by omega
  refine zv (.ia 1 8 4 (hi := hi68)) 0 ?_
  refine zs (hH.q 5 rfl) (.ld cWd ((rnd32 (blkF F i) (hs32 F i) q) 4) (fun _ hS => ((holds_blk0 hS).eltV hi68))) 1 ?_
  have hi69 : 5 < 8 := by omega
  refine zv (.ia 1 8 5 (hi := hi69)) 0 ?_
  refine zs (hH.q 5 rfl) (.ld cWd ((rnd32 (blkF F i) (hs32 F i) q) 5) (fun _ hS => ((holds_blk0 hS).eltV hi69))) 1 ?_
  have hi70 : 6 < 8 := by omega
  refine zv (.ia 1 8 6 (hi := hi70)) 0 ?_
  refine zs (hH.q 5 rfl) (.ld cWd ((rnd32 (blkF F i) (hs32 F i) q) 6) (fun _ hS => ((holds_blk0 hS).eltV hi70))) 1 ?_
  refine zv (v := ((cWs 8).val (rnd32 (blkF F i) (hs32 F i) (q + 1)))) (fun _ _ hF => opBuildP (cells := (cWs 8).enc (rnd32 (blkF F i) (hs32 F i) (q + 1))) (vals := [(0, (.int .u32 ((((pl32 (one32 (W32 (blkF F i) q) q (rnd32 (blkF F i) (hs32 F i) q)) (two32 (rnd32 (blkF F i) (hs32 F i) q))).toNat) : Nat) : Int))), (1, (.int .u32 (((((rnd32 (blkF F i) (hs32 F i) q) 0).toNat) : Nat) : Int))), (2, (.int .u32 (((((rnd32 (blkF F i) (hs32 F i) q) 1).toNat) : Nat) : Int))), (3, (.int .u32 (((((rnd32 (blkF F i) (hs32 F i) q) 2).toNat) : Nat) : Int))), (4, (.int .u32 ((((pl32 ((rnd32 (blkF F i) (hs32 F i) q) 3) (one32 (W32 (blkF F i) q) q (rnd32 (blkF F i) (hs32 F i) q))).toNat) : Nat) : Int))), (5, (.int .u32 (((((rnd32 (blkF F i) (hs32 F i) q) 4).toNat) : Nat) : Int))), (6, (.int .u32 (((((rnd32 (blkF F i) (hs32 F i) q) 5).toNat) : Nat) : Int))), (7, (.int .u32 (((((rnd32 (blkF F i) (hs32 F i) q) 6).toNat) : Nat) : Int)))]) rfl (EvP.cons (v := (.int .u32 ((((pl32 (one32 (W32 (blkF F i) q) q (rnd32 (blkF F i) (hs32 F i) q)) (two32 (rnd32 (blkF F i) (hs32 F i) q))).toNat) : Nat) : Int))) (hF.ev 7 rfl) (EvP.cons (v := (.int .u32 (((((rnd32 (blkF F i) (hs32 F i) q) 0).toNat) : Nat) : Int))) (hF.ev 6 rfl) (EvP.cons (v := (.int .u32 (((((rnd32 (blkF F i) (hs32 F i) q) 1).toNat) : Nat) : Int))) (hF.ev 5 rfl) (EvP.cons (v := (.int .u32 (((((rnd32 (blkF F i) (hs32 F i) q) 2).toNat) : Nat) : Int))) (hF.ev 4 rfl) (EvP.cons (v := (.int .u32 ((((pl32 ((rnd32 (blkF F i) (hs32 F i) q) 3) (one32 (W32 (blkF F i) q) q (rnd32 (blkF F i) (hs32 F i) q))).toNat) : Nat) : Int))) (hF.ev 3 rfl) (EvP.cons (v := (.int .u32 (((((rnd32 (blkF F i) (hs32 F i) q) 4).toNat) : Nat) : Int))) (hF.ev 2 rfl) (EvP.cons (v := (.int .u32 (((((rnd32 (blkF F i) (hs32 F i) q) 5).toNat) : Nat) : Int))) (hF.ev 1 rfl) (EvP.cons (v := (.int .u32 (((((rnd32 (blkF F i) (hs32 F i) q) 6).toNat) : Nat) : Int))) (hF.ev 0 rfl) EvP.nil)))))))) (by kernel_rfl) _) 255 ?_
  refine ze0 5 hH rfl (.sw (cWs 8) (rnd32 (blkF F i) (hs32 F i) q) (rnd32 (blkF F i) (hs32 F i) (q + 1))) trivial ?_
  clear hH
  rintro _ _ w rfl hH
  refine pxEnd ?_
  refine qxInN ?_
  refine qxThen ?_
  refine cxReg ?_
  refine zv (.add ((q + 1 : Nat) : Int)) 3 ?_
  refine zv .mv 1 ?_
  refine pxEnd ?_
  exact zR1 (q + 1) ⟨hH, (by omega)⟩ (by omega)
  refine cxExit ?_
  refine qxThenE ?_
  refine qxThenE ?_
  refine qxInE ?_
  refine qxThen ?_
  obtain rfl : q = 64 := by omega
  have he71 : (cWs 8).enc (upF 0 (comp32 (blkF F i) (hs32 F i)) (hs32 F i)) = (cWs 8).enc (hs32 F i) := vec_congr (fun _ _ => by rw [upF_zero])
  replace hH : HH w0 [] [[bl g1 22 ((cArr 32).enc (fun _ => 0))], [bl g2 115 ((cWs 8).enc (upF 0 (comp32 (blkF F i) (hs32 F i)) (hs32 F i)))], [bl g3 125 ((cWs 64).enc K32)], [bl g10 5 cur12], [bl g17 125 ((cWs 64).enc (W32 (blkF F i)))], [bl g50 115 ((cWs 8).enc (rnd32 (blkF F i) (hs32 F i) 64))]] w := by rw [he71]; exact hH
  refine zr ?_
  refine zv .mv 11 ?_
  refine zn ?_
  refine cxBlock ?_
  refine zL1 (fun (q : Nat) => [(214, (.int .i64 (((q) : Nat) : Int))), (12, (.pointer (some ⟨g50, 0, none⟩))), (6, (.int .i64 (((64 * i) : Nat) : Int))), (5, (.slice (some ⟨g10, 0, none⟩) ((pdM l).length) c7)), (4, (.pointer (some ⟨g3, 0, none⟩))), (3, (.pointer (some ⟨g2, 0, none⟩))), (2, (.pointer (some ⟨g1, 0, none⟩)))]) (fun q w => HH w0 [] [[bl g1 22 ((cArr 32).enc (fun _ => 0))], [bl g2 115 ((cWs 8).enc (upF q (comp32 (blkF F i) (hs32 F i)) (hs32 F i)))], [bl g3 125 ((cWs 64).enc K32)], [bl g10 5 cur12], [bl g17 125 ((cWs 64).enc (W32 (blkF F i)))], [bl g50 115 ((cWs 8).enc (rnd32 (blkF F i) (hs32 F i) 64))]] w ∧ (q ≤ 8)) (fun q => 8 - q) 0 ⟨hH, (Nat.zero_le _)⟩ ?_
  clear hH
  rintro q w ⟨hH, hq⟩
  refine zr ?_
  refine zv (.lt (q < 8)) 0 ?_
  refine zn ?_
  refine cxSeq ?_
  refine zP (fun hc72 => ?_) (fun hc72 => ?_)
  refine cxSkip ?_
  refine qxThen ?_
  refine cxSeq ?_
  refine cxBlock ?_
  refine zr ?_
  refine zv .mv 1 ?_
  refine zv .mv 1 ?_
  refine zn ?_
  refine cxRegX mixedOrders (by kernel_rfl) ?_
  replace hH := hH.drew
  refine rv 0 .mv 0 ?_
  refine rv 1 .mv 0 ?_
  have hi73 : q < 8 := by omega
  refine rv 2 (.ia 1 8 q (hi := hi73)) 1 ?_
  refine rld 3 (hH.q 1 rfl) (.ld cWd ((upF q (comp32 (blkF F i) (hs32 F i)) (hs32 F i)) q) (fun _ hS => ((holds_blk0 hS).eltV hi73))) 1 ?_
  refine rv 4 .mv 4 ?_
  have hi74 : q < 8 := by omega
  refine rv 5 (.ia 1 8 q (hi := hi74)) 1 ?_
  refine rld 6 (hH.q 5 rfl) (.ld cWd ((rnd32 (blkF F i) (hs32 F i) 64) q) (fun _ hS => ((holds_blk0 hS).eltV hi74))) 1 ?_
  refine rv 7 (.aw (pl32 ((upF q (comp32 (blkF F i) (hs32 F i)) (hs32 F i)) q) ((rnd32 (blkF F i) (hs32 F i) 64) q))) 3 ?_
  have hi75 : q < 8 := by omega
  refine rv 8 (.ia 1 8 q (hi := hi75)) 2 ?_
  refine rx1k 9 ?_
  refine re0 9 1 hH rfl (.st cWd (pl32 ((upF q (comp32 (blkF F i) (hs32 F i)) (hs32 F i)) q) ((rnd32 (blkF F i) (hs32 F i) 64) q)) (room_1 (S := sWd) (C := (cWs 8)) rfl hi75) (vec_set0 (upF q (comp32 (blkF F i) (hs32 F i)) (hs32 F i)) (pl32 ((upF q (comp32 (blkF F i) (hs32 F i)) (hs32 F i)) q) ((rnd32 (blkF F i) (hs32 F i) 64) q)) hi75)) trivial (pgo [] (pgo [] (.nil _ []))) ?_
  clear hH
  rintro _ _ w rfl hH
  refine ⟨pnil, ?_⟩
  refine rxEnd (by kernel_rfl) ?_
  refine qxInN ?_
  refine qxThen ?_
  refine cxReg ?_
  refine zv (.add ((q + 1 : Nat) : Int)) 7 ?_
  refine zv .mv 1 ?_
  refine pxEnd ?_
  have he76 : (cWs 8).enc (upF (q + 1) (comp32 (blkF F i) (hs32 F i)) (hs32 F i)) = (cWs 8).enc (stF (upF q (comp32 (blkF F i) (hs32 F i)) (hs32 F i)) q (pl32 ((upF q (comp32 (blkF F i) (hs32 F i)) (hs32 F i)) q) ((rnd32 (blkF F i) (hs32 F i) 64) q))) := vec_congr (fun j _ => (congrFun (upF_step q (comp32 (blkF F i) (hs32 F i)) (hs32 F i) (by rw [upF_at]; rfl)) j).symm)
  replace hH : HH w0 [] [[bl g1 22 ((cArr 32).enc (fun _ => 0))], [bl g2 115 ((cWs 8).enc (upF (q + 1) (comp32 (blkF F i) (hs32 F i)) (hs32 F i)))], [bl g3 125 ((cWs 64).enc K32)], [bl g10 5 cur12], [bl g17 125 ((cWs 64).enc (W32 (blkF F i)))], [bl g50 115 ((cWs 8).enc (rnd32 (blkF F i) (hs32 F i) 64))]] w := by rw [he76]; exact hH
  exact zR1 (q + 1) ⟨hH, (by omega)⟩ (by omega)
  refine cxExit ?_
  refine qxThenE ?_
  refine qxThenE ?_
  refine qxInE ?_
  refine qxInN ?_
  refine qxThen ?_
  obtain rfl : q = 8 := by omega
  have he77 : (cWs 8).enc (hs32 F (i + 1)) = (cWs 8).enc (upF 8 (comp32 (blkF F i) (hs32 F i)) (hs32 F i)) := vec_congr (fun j hj => (upF_lt _ _ hj).symm)
  replace hH : HH w0 [] [[bl g1 22 ((cArr 32).enc (fun _ => 0))], [bl g2 115 ((cWs 8).enc (hs32 F (i + 1)))], [bl g3 125 ((cWs 64).enc K32)], [bl g10 5 cur12], [bl g17 125 ((cWs 64).enc (W32 (blkF F i)))], [bl g50 115 ((cWs 8).enc (rnd32 (blkF F i) (hs32 F i) 64))]] w := by rw [he77]; exact hH
  refine cxReg ?_
  refine zv .mv 15 ?_
  refine zv (.add (((64 * (i + 1)) : Nat) : Int)) 1 ?_
  refine zv .mv 1 ?_
  refine pxEnd ?_
  replace hH : HH w0 [] [[bl g1 22 ((cArr 32).enc (fun _ => 0))], [bl g2 115 ((cWs 8).enc (hs32 F (i + 1)))], [bl g3 125 ((cWs 64).enc K32)], [bl g10 5 cur12]] w := hH.only [true, true, true, true, false, false]
  exact zR1 (i + 1) ⟨hH, (by omega)⟩ (by omega)
  refine cxExit ?_
  refine qxThenE ?_
  refine qxThenE ?_
  refine qxInE ?_
  refine qxThen ?_
  obtain rfl : i = nb32 n := by omega
  refine zr ?_
  refine zm hH (.al (cArr 32) (fun _ => 0)) trivial 15 ?_
  clear hH
  rintro _ _ w ⟨g78, rfl, rfl⟩ hH
  refine zn ?_
  refine cxSeq ?_
  have he79 : (cArr 32).enc (upF 0 (out32 (hs32 F (nb32 n))) (fun _ => 0)) = (cArr 32).enc (fun _ => 0) := arr_congr (fun _ _ => by rw [upF_zero])
  replace hH : HH w0 [] [[bl g1 22 ((cArr 32).enc (fun _ => 0))], [bl g2 115 ((cWs 8).enc (hs32 F (nb32 n)))], [bl g3 125 ((cWs 64).enc K32)], [bl g10 5 cur12], [bl g78 22 ((cArr 32).enc (upF 0 (out32 (hs32 F (nb32 n))) (fun _ => 0)))]] w := by rw [he79]; exact hH
  refine zr ?_
  refine zv .mv 0 ?_
  refine zn ?_
  refine cxBlock ?_
  refine zL1 (fun (m : Nat) => [(227, (.int .i64 (((m) : Nat) : Int))), (19, (.pointer (some ⟨g78, 0, none⟩))), (3, (.pointer (some ⟨g2, 0, none⟩))), (2, (.pointer (some ⟨g1, 0, none⟩)))]) (fun m w => HH w0 [] [[bl g1 22 ((cArr 32).enc (fun _ => 0))], [bl g2 115 ((cWs 8).enc (hs32 F (nb32 n)))], [bl g3 125 ((cWs 64).enc K32)], [bl g10 5 cur12], [bl g78 22 ((cArr 32).enc (upF m (out32 (hs32 F (nb32 n))) (fun _ => 0)))]] w ∧ (m ≤ 32)) (fun m => 32 - m) 0 ⟨hH, (Nat.zero_le _)⟩ ?_
  clear hH
  rintro m w ⟨hH, hm⟩
  refine zr ?_
  refine zv (.lt (m < 32)) 0 ?_
  refine zn ?_
  refine cxSeq ?_
  refine zP (fun hc80 => ?_) (fun hc80 => ?_)
  refine cxSkip ?_
  refine qxThen ?_
  refine cxSeq ?_
  refine cxBlock ?_
  refine zr ?_
  refine zv .mv 1 ?_
  refine zv .mv 1 ?_
  refine zn ?_
  refine cxReg ?_
  refine zv .mv 0 ?_
  refine zv .mv 0 ?_
  refine zv (v := (.int .i64 (((m / 4) : Nat) : Int))) (fun _ _ hF => opQuo (z := ((m / 4 : Nat) : Int)) rfl (hF.ev 0 rfl) rfl (by omega) (wI quoN (by omega) (by omega))) 1 ?_
  have hi81 : m / 4 < 8 := by omega
  refine zv (.ia 1 8 (m / 4) (hi := hi81)) 1 ?_
  refine zs (hH.q 1 rfl) (.ld cWd ((hs32 F (nb32 n)) (m / 4)) (fun _ hS => ((holds_blk0 hS).eltV hi81))) 1 ?_
  refine zv .mv 4 ?_
  refine zv (v := (.int .i64 (((m % 4) : Nat) : Int))) (fun _ _ hF => opRem (z := ((m % 4 : Nat) : Int)) rfl (hF.ev 0 rfl) rfl (by omega) remN) 1 ?_
  refine zv (.mul ((8 * (m % 4) : Nat) : Int)) 1 ?_
  refine zv (.sub (((24 - 8 * (m % 4)) : Nat) : Int)) 1 ?_
  refine zv (.cu .u64) 1 ?_
  refine zv (.rw (24 - 8 * (m % 4))) 3 ?_
  refine zv .cb 1 ?_
  have hi82 : m < 32 := by omega
  refine zv (.ia 1 32 m (hi := hi82)) 2 ?_
  refine ze0 4 hH rfl (.st cByte (UInt8.ofNat ((sr32 ((hs32 F (nb32 n)) (m / 4)) (24 - 8 * (m % 4))).toNat)) (room_1 (S := sBy) (C := (cArr 32)) rfl hi82) (arr_set0 (upF m (out32 (hs32 F (nb32 n))) (fun _ => 0)) (UInt8.ofNat ((sr32 ((hs32 F (nb32 n)) (m / 4)) (24 - 8 * (m % 4))).toNat)) hi82)) trivial ?_
  clear hH
  rintro _ _ w rfl hH
  refine pxEnd ?_
  refine qxInN ?_
  refine qxThen ?_
  refine cxReg ?_
  refine zv (.add ((m + 1 : Nat) : Int)) 7 ?_
  refine zv .mv 1 ?_
  refine pxEnd ?_
  have he83 : (cArr 32).enc (upF (m + 1) (out32 (hs32 F (nb32 n))) (fun _ => 0)) = (cArr 32).enc (stF (upF m (out32 (hs32 F (nb32 n))) (fun _ => 0)) m (UInt8.ofNat ((sr32 ((hs32 F (nb32 n)) (m / 4)) (24 - 8 * (m % 4))).toNat))) := arr_congr (fun j _ => (congrFun (upF_step m (out32 (hs32 F (nb32 n))) (fun _ => 0) (out32_at2 _ m)) j).symm)
  replace hH : HH w0 [] [[bl g1 22 ((cArr 32).enc (fun _ => 0))], [bl g2 115 ((cWs 8).enc (hs32 F (nb32 n)))], [bl g3 125 ((cWs 64).enc K32)], [bl g10 5 cur12], [bl g78 22 ((cArr 32).enc (upF (m + 1) (out32 (hs32 F (nb32 n))) (fun _ => 0)))]] w := by rw [he83]; exact hH
  exact zR1 (m + 1) ⟨hH, (by omega)⟩ (by omega)
  refine cxExit ?_
  refine qxThenE ?_
  refine qxThenE ?_
  refine qxInE ?_
  refine qxThen ?_
  obtain rfl : m = 32 := by omega
  have he84 : (cArr 32).enc (out32 (hs32 F (nb32 n))) = (cArr 32).enc (upF 32 (out32 (hs32 F (nb32 n))) (fun _ => 0)) := arr_congr (fun j hj => (upF_lt _ _ hj).symm)
  replace hH : HH w0 [] [[bl g1 22 ((cArr 32).enc (fun _ => 0))], [bl g2 115 ((cWs 8).enc (hs32 F (nb32 n)))], [bl g3 125 ((cWs 64).enc K32)], [bl g10 5 cur12], [bl g78 22 ((cArr 32).enc (out32 (hs32 F (nb32 n))))]] w := by rw [he84]; exact hH
  refine zr ?_
  refine zs (hH.q 4 rfl) (.ld (cArr 32) (out32 (hs32 F (nb32 n))) (fun _ hS => (holds_blk0 hS))) 15 ?_
  refine ze0 0 hH rfl (.sw (cArr 32) (fun _ => 0) (out32 (hs32 F (nb32 n)))) trivial ?_
  clear hH
  rintro _ _ w rfl hH
  refine zn ?_
  refine cxRet ?_
  refine qxRetC 1 (hH.blk 0 rfl) rfl rfl (by kernel_rfl) (Cod.size _ _) (by kernel_rfl) ?_
  have he : out32 (hs32 F (nb32 n)) = sha l := by rw [hF]; subst hn; rfl
  rw [he]
  exact ⟨rfl, HH.toBelow hH⟩
end Go.Proofs.YtfloiekaiiapnaaGreatDoor

namespace Go.Proofs.YtfloiekaiiapnaaGreatDoor
open Go Go.RowKit

/-- n bytes of t, again and again. -/
def cyc (t : List UInt8) (n : Nat) : List UInt8 := lst n fun j => t.getD (j % t.length) 0
/-- The hash i. -/
def hsh (t : List UInt8) (n i : Nat) : List UInt8 := lst 32 (sha (List.replicate i 0 ++ cyc t n))
/-! ### For the walks -/
section
variable {α : Type} {C : Cod α} {e : TypeId} {l : List α} {E : Hl} {cap : Nat} {cur : Array Value}
theorem Bk.head (h : Bk C cap cur l) (m : Nat) : Bk C cap cur (l.take m) := by
  refine ⟨by rw [List.length_take]; have := h.le; omega, h.max, h.size, ?_⟩
  apply List.ext_getElem?
  intro k
  rw [List.getElem?_take]
  by_cases hk : k < (l.take m).length * C.sz
  · rw [if_pos hk]
    have hsz : 0 < C.sz := by
      rcases Nat.eq_zero_or_pos C.sz with h0 | h0
      · rw [h0, Nat.mul_zero] at hk; omega
      · exact h0
    have hlt : k / C.sz < (l.take m).length := (Nat.div_lt_iff_lt_mul hsz).2 hk
    have hmod : k % C.sz < C.sz := Nat.mod_lt _ hsz
    obtain ⟨x, hx⟩ := get_at _ _ hlt
    have hu : (C.enc x)[k % C.sz]? = some ((C.enc x)[k % C.sz]'(by rw [C.size]; exact hmod)) := Array.getElem?_eq_getElem (by rw [C.size]; exact hmod)
    have h1 := flat_get _ _ _ _ _ hx hu
    have hx' : l[k / C.sz]? = some x := by
      rw [List.getElem?_take] at hx
      split at hx
      · exact hx
      · cases hx
    have h2 := h.cell _ _ hx' hu
    rw [Nat.div_add_mod' k C.sz] at h1 h2
    rw [h1, Array.getElem?_toList, h2]
  · rw [if_neg hk, List.getElem?_eq_none (by rw [flat_len]; omega)]
theorem OwnT.head {A : Option Addr} {n c m : Nat} (h : OwnT C e (.slice A n c) l E) (hm : m ≤ l.length) : OwnT C e (.slice A m c) (l.take m) E := by
  rcases h.cases with ⟨h1, rfl, rfl⟩ | ⟨g, cap, cur, h1, rfl, hB⟩
  · injection h1 with e1 e2 e3
    subst e1 e3
    obtain rfl : m = 0 := by simpa using hm
    exact OwnT.nil _ _
  · injection h1 with e1 e2 e3
    subst e1 e3
    exact (hB.head m).own e g (by rw [List.length_take]; omega)
end
section
variable {α : Type} {C : Cod α} {P : Program} {a : Act} {o : Oper} {w : World} {x y : Operand} {ty tn e : TypeId}
/-- append of noughts to a nil slice. -/
theorem smAppZ {n by_ : Nat} {z : α} {kn kq : IntKind} (ho : o.op = .call { callee := .builtin .append, args := #[x, y], argTypes := #[ty, tn] })
    (hu : P.underlying ty = some (.slice e)) (hn : P.underlying tn = some (.int kn)) (hi : (P.info? e).map (fun i => (i.zero, i.size, i.bytes)) = some (some (C.val z), C.sz, by_)) (hsz : 0 < C.sz)
    (hx : a.eval x = .slice none 0 0) (hy : a.eval y = .int kq (n : Int)) (h0 : 0 < n) (hb : n * by_ ≤ 140737488355328) (h63 : n ≤ maxLen) :
    Small P a o [] (fun _ => True) (fun v' E' => ∃ g cap cur, v' = .slice (some ⟨g, 0, none⟩) n cap ∧ E' = [bl g e cur] ∧ Bk C cap cur []) := fun w _ _ => by
  obtain ⟨i, hi', h2⟩ := Option.map_eq_some_iff.1 hi
  simp only [Prod.mk.injEq] at h2
  obtain ⟨hz, hisz, rfl⟩ := h2
  have hr := Lib.run_append_grow_zeros w ty tn o.type e i (C.val z) kq kn hu hn hi' hz none 0 0 [] (run_firstCells_none w.drew i.size 0 0 0) n h0 (by omega) (by omega) (by unfold maxLen at h63; omega) (by omega) (by rw [Nat.zero_add]; exact growslice_fits (by omega) hb)
  rw [Nat.zero_add] at hr
  unfold execOp
  simp only [ho, resolve, invoke, builtin, Sem.run_bind, Sem.run_pure, Result.andThen_ok, List.map_toArray, List.map_cons, List.map_nil, hx, hy, hr]
  have hge := grownCap_ge w n 0 e
  have hcm := grownCap_le_maxLen w n 0 e h63
  have hcz : (C.val z).cells.size = C.sz := C.len z
  have hold : Hold w [] [bl w.heap.size e (#[] ++ Builtin.zeroCells (C.val z).cells n ++ Builtin.zeroCells (C.val z).cells (grownCap w n 0 e - n))] (w.drew.alloc (.cells (#[] ++ Builtin.zeroCells (C.val z).cells n ++ Builtin.zeroCells (C.val z).cells (grownCap w n 0 e - n)) e)) := by
    have := Has.new w.drew (.cells (#[] ++ Builtin.zeroCells (C.val z).cells n ++ Builtin.zeroCells (C.val z).cells (grownCap w n 0 e - n)) e)
    exact ⟨this.os, this.tape, this.output, this.size, this.blk, this.ne, fun x hx => (this.own x hx).imp id (fun h => (by cases h)), fun k hk _ => this.frame k hk (by simp)⟩
  refine ⟨_, ⟨_, grownCap w n 0 e, _, rfl, rfl, ⟨Nat.zero_le _, hcm, ?_, by simp [flat]⟩⟩, hold⟩
  simp only [Array.size_append, size_zeroCells, hcz, List.size_toArray, List.length_nil, Nat.zero_add]
  rw [← Nat.add_mul]
  congr 1
  omega
theorem opSliceAH {b off m h sz : Nat} {kh : IntKind} {jh : Int} {xh : Operand} (ho : o.op = .slice ty x none (some xh) none) (hu : P.underlying ty = some (.array m e)) (hs : (P.info? e).map (·.size) = some sz) (hx : a.eval x = .pointer (some ⟨b, off, none⟩)) (hh : a.eval xh = .int kh jh) (hjh : jh = (h : Int)) (h2 : h ≤ m) :
    (execOp a.eval o).run P w = .ok (.value (.slice (some ⟨b, off, none⟩) h m)) w := by
  subst hjh
  have he := elem_ofA hu
  have hn := len_ofA hu
  have hu' : P.underlying ty = some (.array (P.arrayLen ty) (P.elem ty)) := by rw [he, hn]; exact hu
  have hadd : (⟨b, off, none⟩ : Addr).add (0 * sz) = ⟨b, off, none⟩ := by rw [Addr.add_mid]; simp
  unfold execOp
  simp only [ho, Option.map_some, Option.map_none, hx, hh, Sem.run_bind, Sem.run_pure, run_sliceAt_array_h w ty ⟨b, off, none⟩ hu' kh (h : Int) (by omega) (by rw [hn]; omega), he, hn, run_sizeOf hs, Result.andThen_ok, slicedAt, Int.toNat_natCast, hadd, ite_self, Nat.sub_zero]
end
theorem flatten_next {ds : List (List UInt8)} {i : Nat} {l : List UInt8} (h : ds[i]? = some l) : (ds.take i).flatten ++ l = (ds.take (i + 1)).flatten := by
  rw [List.take_add_one, h]; simp
theorem flatten_le {ds : List (List UInt8)} (i : Nat) : (ds.take i).flatten.length ≤ ds.flatten.length := by
  have : ds = ds.take i ++ ds.drop i := (List.take_append_drop i ds).symm
  rw [congrArg List.flatten this, List.flatten_append, List.length_append]; omega
end Go.Proofs.YtfloiekaiiapnaaGreatDoor

namespace Go.Proofs.YtfloiekaiiapnaaGreatDoor
open Go Go.RowKit

section
variable {P : Program} {a : Act} {o : Oper} {w w0 : World} {R : List Nat} {Hs : List Hl} {v : Value} {x y : Operand} {t t2 ty ty2 e : TypeId} {l m r : List UInt8} {g off : Nat}
theorem opNeL {p : Prop} [Decidable p] (ho : o.op = .binOp .neq t x y t2) (hx : a.eval x = .string (strL l)) (hy : a.eval y = .string (strL m)) (hp : l ≠ m ↔ p) : (execOp a.eval o).run P w = .ok (.value (.bool (decide p))) w :=
  opNeS ho hx hy (dc (Iff.trans (not_congr strL_inj) hp))
theorem opEqLb {b : Bool} (ho : o.op = .binOp .eql t x y t2) (hx : a.eval x = .string (strL l)) (hy : a.eval y = .string (strL m)) (hb : decide (l = m) = b) : (execOp a.eval o).run P w = .ok (.value (.bool b)) w :=
  opEqS ho hx hy ((dc strL_inj).trans hb)
theorem opCap {n c : Nat} {A : Option Addr} (ho : o.op = .call { callee := .builtin .cap, args := #[x], argTypes := #[ty] }) (hu : P.underlying ty = some (.slice e)) (hx : a.eval x = .slice A n c) : (execOp a.eval o).run P w = .ok (.value (.int .i64 (c : Int))) w := by
  unfold execOp; simp [ho, hx, resolve, invoke, builtin, Builtin.cap_, run_underlying hu, goInt]
/-- make, of no elements, with room. -/
theorem smMake0 {n sz by_ : Nat} {z : Value} {k k2 : IntKind} {j : Int} {cs : Array Value} (ho : o.op = .makeSlice ty x y) (hu : P.underlying ty = some (.slice e)) (hi : (P.info? e).map (fun i => (i.zero, i.size, i.bytes)) = some (some z, sz, by_)) (hx : a.eval x = .int k 0) (hy : a.eval y = .int k2 j) (hj : j = (n : Int)) (hb : by_ * n ≤ 281474976710656) (hn : n ≤ 9223372036854775807) (hcs : madeCells z.cells (n * sz) = cs) :
    Small P a o [] (fun _ => True) (fun v E' => ∃ g, v = .slice (some ⟨g, 0, none⟩) 0 n ∧ E' = [bl g e cs]) := fun w _ _ => by
  subst hcs hj
  obtain ⟨i, hi', h2⟩ := Option.map_eq_some_iff.1 hi
  simp only [Prod.mk.injEq] at h2
  obtain ⟨hz, rfl, rfl⟩ := h2
  have hr := run_make (P := P) w ty e i z hu hi' hz k k2 0 n (by omega) (by omega) (by rw [← Int.natCast_mul]; omega) (by omega)
  rw [Int.toNat_natCast] at hr
  unfold execOp
  simp only [ho, hx, hy, Sem.run_bind, Sem.run_pure, Result.andThen_ok, hr]
  exact ⟨_, ⟨_, rfl, rfl⟩, Has.new w _⟩
theorem Bk.make0 {α : Type} {C : Cod α} (z : α) (n : Nat) (hn : n ≤ maxLen) : Bk C n (madeCells (C.enc z) (n * C.sz)) [] := ⟨Nat.zero_le _, hn, by simp [madeCells], by simp [flat]⟩
end
end Go.Proofs.YtfloiekaiiapnaaGreatDoor

namespace Go.Proofs.YtfloiekaiiapnaaGreatDoor
open Go Go.RowKit
set_option maxRecDepth 100000

/-- Each head's bytes. -/
def ViewsL (w : World) (hs : List (Option Addr × Nat × Nat)) (ds : List (List UInt8)) : Prop := ∀ (i : Nat) (z : Option Addr × Nat × Nat), hs[i]? = some z → ∃ l : List UInt8, ds[i]? = some l ∧ Vu cByte w z.1 z.2.1 z.2.2 l
theorem ViewsL.nil {w : World} : ViewsL w [] [] := fun _ _ h => by simp at h
theorem ViewsL.cons {w : World} {A : Option Addr} {n c : Nat} {l : List UInt8} {hs : List (Option Addr × Nat × Nat)} {ds : List (List UInt8)} (h : Vu cByte w A n c l) (t : ViewsL w hs ds) : ViewsL w ((A, n, c) :: hs) (l :: ds)
  | 0, z, hz => by
    obtain rfl : (A, n, c) = z := by simpa using hz
    exact ⟨l, rfl, h⟩
  | i + 1, z, hz => t i z (by simpa using hz)

set_option maxHeartbeats 8000000 in
theorem grow_c (n : Nat) (hn : n ≤ 140737488355328) : Does Tryz.prog 47 #[(.slice none 0 0), (.int .i64 (((n) : Nat) : Int))] [] (fun _ => True) (fun v E' => OwnT cByte 5 v [] E') := by
  refine does_of (fn := Tryz.f47) Tryz.func47 rfl Tryz.ntmps47 (Nat.le_of_ble_eq_true rfl) rfl ?_
  intro w0 hH hR
  replace hH : HH w0 [] [] w0 := hH.only [false]
  refine zr ?_
  refine zv .mv 0 ?_
  refine zn ?_
  refine cxSeq ?_
  refine zr ?_
  refine zv .mv 1 ?_
  refine zv (v := (.bool false)) (fun _ _ hF => opLss rfl (hF.ev 0 rfl) rfl (decide_eq_false (by omega))) 1 ?_
  refine zn ?_
  refine zF ?_
  refine cxSkip ?_
  refine qxThen ?_
  refine cxSeq ?_
  refine zr ?_
  refine zv .mv 5 ?_
  refine zv .mv 0 ?_
  refine zv (v := (.int .i64 0)) (fun _ _ hF => opCap (e := 5) rfl (by kernel_rfl) (hF.ev 0 rfl)) 1 ?_
  refine zv .mv 0 ?_
  refine zv .len 1 ?_
  refine zv (v := (.int .i64 0)) (fun _ _ hF => opSub rfl (hF.ev 1 rfl) (hF.ev 0 rfl) (by decide)) 3 ?_
  refine zv (.sub (((n) : Nat) : Int)) 3 ?_
  refine zv .mv 1 ?_
  refine zn ?_
  refine zr ?_
  refine zv .mv 0 ?_
  refine zv (.gt (n > 0)) 1 ?_
  refine zn ?_
  refine zP (fun hc1 => ?_) (fun hc1 => ?_)
  have hc0 : 0 < n := by omega
  refine cxReg ?_
  refine zv .mv 1 ?_
  refine zv .mv 0 ?_
  refine zv (v := (.int .i64 0)) (fun _ _ hF => opCap (e := 5) rfl (by kernel_rfl) (hF.ev 0 rfl)) 1 ?_
  refine zv (v := (.slice none 0 0)) (fun _ _ hF => opCutH (h := 0) (e := 5) (sz := 1) rfl (by kernel_rfl) (by kernel_rfl) (hF.ev 1 rfl) (hF.ev 0 rfl) rfl (by omega)) 3 ?_
  refine zv .mv 2 ?_
  refine zm hH (fun _ hF => smAppZ (kn := .i64) (C := cByte) (z := 0) (e := 5) (by_ := 1) rfl (by kernel_rfl) (by kernel_rfl) (by kernel_rfl) (ltb rfl) (hF.ev 1 rfl) (hF.ev 0 rfl) hc0 (by omega) (by unfold maxLen; omega)) trivial 3 ?_
  clear hH
  rintro _ _ w ⟨g2, cap3, cur4, rfl, rfl, hB5⟩ hH
  refine zv .mv 2 ?_
  refine zv .len 1 ?_
  refine zv (v := (.slice (some ⟨g2, 0, none⟩) 0 cap3)) (fun _ _ hF => opCutH (h := 0) (e := 5) (sz := 1) rfl (by kernel_rfl) (by kernel_rfl) (hF.ev 1 rfl) (hF.ev 0 rfl) rfl (by omega)) 3 ?_
  refine zv .mv 1 ?_
  refine zn ?_
  refine zr ?_
  refine zv .mv 1 ?_
  refine zv .mv 1 ?_
  refine zn ?_
  refine cxRet ?_
  refine qxRet1 0 rfl rfl ?_
  exact ⟨_, _, rfl, hB5.own 5 g2 rfl, hH.out1 [true] rfl⟩
  refine cxSkip ?_
  refine qxThen ?_
  refine zr ?_
  refine zv .mv 7 ?_
  refine zv .mv 1 ?_
  refine zn ?_
  refine cxRet ?_
  refine qxRet1 0 rfl rfl ?_
  exact ⟨_, _, rfl, OwnT.nil _ _, HH.out (HH.pad hH 1) [true]⟩

set_option maxHeartbeats 8000000 in
theorem concat_c (A : Option Addr) (n c : Nat) (hs : List (Option Addr × Nat × Nat)) (ds : List (List UInt8)) (hd : ds.length = n) (hn2 : n ≤ 1000) (hb : ds.flatten.length ≤ 70368744177664) : Does Tryz.prog 32 #[(.slice A n c)] [] (fun w => Vu cSl w A n c hs ∧ ViewsL w hs ds) (fun v E' => OwnT cByte 5 v ds.flatten E') := by
  refine does_of (fn := Tryz.f32) Tryz.func32 rfl Tryz.ntmps32 (Nat.le_of_ble_eq_true rfl) rfl ?_
  intro w0 hH hR
  replace hH : HH w0 [] [] w0 := hH.only [false]
  have hn := hR.1.len; have hcap := hR.1.cap
  refine zr ?_
  refine zv .mv 0 ?_
  refine zn ?_
  refine zr ?_
  refine zv .mv 1 ?_
  refine zn ?_
  refine cxSeq ?_
  refine zr ?_
  refine zv .mv 0 ?_
  refine zv .len 0 ?_
  refine zv .mv 0 ?_
  refine zn ?_
  refine cxBlock ?_
  refine zL1 (fun (i : Nat) => [(11, (.int .i64 (((i) : Nat) : Int))), (10, (.int .i64 (((n) : Nat) : Int))), (9, (.slice A n c)), (3, (.int .i64 ((((ds.take i).flatten.length) : Nat) : Int))), (0, (.slice A n c))]) (fun i w => HH w0 [] [] w ∧ (i ≤ n)) (fun i => n - i) 0 ⟨hH, (Nat.zero_le _)⟩ ?_
  clear hH
  rintro i w ⟨hH, hi⟩
  refine zr ?_
  refine zv (.lt (i < n)) 0 ?_
  refine zn ?_
  refine cxSeq ?_
  refine zP (fun hc1 => ?_) (fun hc1 => ?_)
  refine cxSkip ?_
  refine qxThen ?_
  refine cxSeq ?_
  refine cxBlock ?_
  obtain ⟨⟨A1, n1, c1⟩, hx1⟩ := get_at hs i (by omega)
  obtain ⟨l1, hl1, hV1⟩ := hR.2 _ _ hx1
  obtain rfl : l1.length = n1 := hV1.len
  replace hV1 : Vu cByte w0 A1 l1.length c1 l1 := hV1
  have hcap1 := hV1.cap
  have hfl1 := congrArg List.length (flatten_next hl1)
  rw [List.length_append] at hfl1
  have hle1 := flatten_le (ds := ds) (i + 1)
  refine zr ?_
  have hi2 : i < n := by omega
  obtain ⟨b3, off4, rfl, hL5, hb6, hR7⟩ := hR.1.blk (by decide) (Off.nil _ _) (by omega)
  have := hR.1.cap
  have hj10 : i < hs.length := by first | exact hi2 | (simp only [List.length_drop]; omega) | (simp only [List.length_drop, List.length_take]; omega) | omega
  refine zv (.ix 1 i (hi := hi2)) 1 ?_
  refine zs (S := fun w => HoldsL cSl w b3 off4 hs) (hH.holdsL hL5 hb6 hR7) (.ld cSl (A1, l1.length, c1) (fun _ hS => (hS i _ hx1)) (v := (.slice A1 l1.length c1))) 1 ?_
  refine zv .mv 1 ?_
  refine zn ?_
  refine zr ?_
  refine zv .mv 16 ?_
  refine zv .mv 2 ?_
  refine zv .len 1 ?_
  refine zv (.add ((((ds.take (i + 1)).flatten.length) : Nat) : Int)) 3 ?_
  refine zv .mv 1 ?_
  refine zn ?_
  refine zr ?_
  refine zv .mv 0 ?_
  refine zv (v := (.bool false)) (fun _ _ hF => opLss rfl (hF.ev 0 rfl) rfl (decide_eq_false (by omega))) 1 ?_
  refine zn ?_
  refine zF ?_
  refine cxSkip ?_
  refine qxInN ?_
  refine qxThen ?_
  refine cxReg ?_
  refine zv (.add ((i + 1 : Nat) : Int)) 5 ?_
  refine zv .mv 1 ?_
  refine pxEnd ?_
  exact zR1 (i + 1) ⟨hH, (by omega)⟩ (by omega)
  refine cxExit ?_
  refine qxThenE ?_
  refine qxThenE ?_
  refine qxInE ?_
  refine qxThen ?_
  have hle0 := flatten_le (ds := ds) i
  refine zr ?_
  refine zv .mv 31 ?_
  refine zm hH (.call Tryz.func47 ((grow_c ((ds.take i).flatten.length) (by omega)))) trivial 1 ?_
  clear hH
  rintro v15 E11 w hO12 hH
  obtain ⟨A13, c14, rfl⟩ := hO12.slice
  refine zv .mv 1 ?_
  refine zn ?_
  refine cxSeq ?_
  refine zr ?_
  refine zv .mv 2 ?_
  refine zv .len 0 ?_
  refine zv .mv 0 ?_
  refine zn ?_
  refine cxBlock ?_
  refine zL5 (fun (j : Nat) (A2 : Option Addr) (c2 : Nat) (L : List UInt8) (_ : Hl) => [(27, (.int .i64 (((j) : Nat) : Int))), (26, (.int .i64 (((n) : Nat) : Int))), (25, (.slice A n c)), (6, (.slice A2 L.length c2))]) (fun j A2 c2 L E2 w => HH w0 [] [E2] w ∧ (j ≤ n) ∧ (OwnT cByte 5 (.slice A2 L.length c2) L E2) ∧ (L = (ds.take j).flatten)) (fun j _ _ _ _ => n - j) 0 A13 c14 ([]) E11 ⟨hH, (Nat.zero_le _), hO12, (by simp)⟩ ?_
  clear hH
  rintro j A2 c2 L E2 w ⟨hH, hj, hO, hL⟩
  refine zr ?_
  refine zv (.lt (j < n)) 0 ?_
  refine zn ?_
  refine cxSeq ?_
  refine zP (fun hc17 => ?_) (fun hc17 => ?_)
  refine cxSkip ?_
  refine qxThen ?_
  refine cxSeq ?_
  refine cxBlock ?_
  have hLl := congrArg List.length hL
  obtain ⟨⟨A1, n1, c1⟩, hx1⟩ := get_at hs j (by omega)
  obtain ⟨l1, hl1, hV1⟩ := hR.2 _ _ hx1
  obtain rfl : l1.length = n1 := hV1.len
  replace hV1 : Vu cByte w0 A1 l1.length c1 l1 := hV1
  have hcap1 := hV1.cap
  have hfl1 := congrArg List.length (flatten_next hl1)
  rw [List.length_append] at hfl1
  have hle1 := flatten_le (ds := ds) (j + 1)
  refine zr ?_
  have hi18 : j < n := by omega
  obtain ⟨b19, off20, rfl, hL21, hb22, hR23⟩ := hR.1.blk (by decide) (Off.nil _ _) (by omega)
  have := hR.1.cap
  have hj26 : j < hs.length := by first | exact hi18 | (simp only [List.length_drop]; omega) | (simp only [List.length_drop, List.length_take]; omega) | omega
  refine zv (.ix 1 j (hi := hi18)) 1 ?_
  refine zs (S := fun w => HoldsL cSl w b19 off20 hs) (hH.holdsL hL21 hb22 hR23) (.ld cSl (A1, l1.length, c1) (fun _ hS => (hS j _ hx1)) (v := (.slice A1 l1.length c1))) 1 ?_
  refine zv .mv 1 ?_
  refine zn ?_
  refine cxReg ?_
  refine zv .mv 16 ?_
  refine zv .mv 2 ?_
  refine ze 0 hH rfl (fun _ hF => smAppT (C := cByte) (l := L) (m := l1) (e := 5) (z := (.int .u8 0)) (by_ := 1) rfl (by kernel_rfl) (by kernel_rfl) rfl (ltb rfl) (hF.ev 1 rfl) hO (hF.ev 0 rfl) rfl (fun h => ⟨by have := hV1.nil h; have := hV1.cap; omega, hV1.nil h⟩) (by unfold maxLen; omega) (by omega)) (hH.vu hV1 (by decide) (Off.nil _ _)) 3 ?_
  clear hH
  rintro v29 E30 w ⟨hO31, _⟩ hH
  replace hO31 : OwnT cByte 5 v29 (L ++ l1) E30 := hO31
  obtain ⟨A27, c28, rfl⟩ := hO31.slice
  refine zv .mv 1 ?_
  refine pxEnd ?_
  refine qxInN ?_
  refine qxThen ?_
  refine cxReg ?_
  refine zv (.add ((j + 1 : Nat) : Int)) 2 ?_
  refine zv .mv 1 ?_
  refine pxEnd ?_
  exact zR5 (j + 1) A27 c28 (L ++ l1) E30 ⟨hH, (by omega), hO31, (by rw [hL]; exact flatten_next hl1)⟩ (by omega)
  refine cxExit ?_
  refine qxThenE ?_
  refine qxThenE ?_
  refine qxInE ?_
  refine qxThen ?_
  refine zr ?_
  refine zv .mv 31 ?_
  refine zv .mv 1 ?_
  refine zn ?_
  refine cxRet ?_
  refine qxRet1 0 rfl rfl ?_
  have hjn : j = n := by omega
  rw [hjn, List.take_of_length_le (by omega)] at hL
  exact ⟨_, _, rfl, hL ▸ hO, hH.out1 [true] rfl⟩
end Go.Proofs.YtfloiekaiiapnaaGreatDoor

namespace Go.Proofs.YtfloiekaiiapnaaGreatDoor
open Go Go.RowKit
set_option maxRecDepth 100000

set_option maxHeartbeats 8000000 in
theorem keyed_c (A : Option Addr) (n c : Nat) (l : List UInt8) (h64 : n ≤ 64) (y : UInt8) : Does Tryz.prog 57 #[(.slice A n c), (.int .u8 (((y.toNat) : Nat) : Int))] [] (fun w => w.heap[1]? = some (.cells ((cWs 64).enc K32) 125 (0, 0)) ∧ w.heap[0]? = some (.cells ((cWs 8).enc H32) 115 (0, 0)) ∧ Vu cByte w A n c l) (fun v E' => ∃ g, v = ptrV g ∧ HaAt g (xpad l y) E') := by
  refine does_of (fn := Tryz.f57) Tryz.func57 rfl Tryz.ntmps57 (Nat.le_of_ble_eq_true rfl) rfl ?_
  intro w0 hH hR
  replace hH : HH w0 [] [] w0 := hH.only [false]
  have hn := hR.2.2.len
  refine zr ?_
  refine zv .mv 0 ?_
  refine zn ?_
  refine zr ?_
  refine zm hH (.al (cArr 64) (fun _ => 0)) trivial 1 ?_
  clear hH
  rintro _ _ w ⟨g1, rfl, rfl⟩ hH
  refine zn ?_
  refine zr ?_
  refine zv (v := (.slice (some ⟨g1, 0, none⟩) 64 64)) (fun _ _ hF => opSliceA (n := 64) (e := 5) (sz := 1) rfl (by kernel_rfl) (by kernel_rfl) (hF.ev 0 rfl)) 0 ?_
  refine zv .mv 4 ?_
  refine ze 0 hH rfl (fun _ hF => smCopyK (C := cByte) (m := l) (e := 5) n (Nat.min_eq_left h64) rfl (by kernel_rfl) (by kernel_rfl) (ltb rfl) (hF.ev 1 rfl) (hF.ev 0 rfl) hn (by rw [Cod.size]; show 0 + n * 1 ≤ 64; omega) (arr_ovr _ _)) (hH.vu hR.2.2 (by decide) (Off.nil _ _)) 3 ?_
  clear hH
  rintro _ _ w ⟨rfl, rfl⟩ hH
  refine zn ?_
  refine cxSeq ?_
  replace hH : HH w0 [] [[bl g1 104 ((cArr 64).enc (mkx y 0 (ovr (l.take n) fun _ => 0)))]] w := by rw [← mkx_0 y (ovr (l.take n) fun _ => 0)] at hH; exact hH
  refine zr ?_
  refine zv .mv 1 ?_
  refine zn ?_
  refine cxBlock ?_
  refine zL1 (fun (i : Nat) => [(11, (.int .i64 (((i) : Nat) : Int))), (5, (.pointer (some ⟨g1, 0, none⟩))), (1, (.int .u8 (((y.toNat) : Nat) : Int)))]) (fun i w => HH w0 [] [[bl g1 104 ((cArr 64).enc (mkx y i (ovr (l.take n) fun _ => 0)))]] w ∧ (i ≤ 64)) (fun i => 64 - i) 0 ⟨hH, (Nat.zero_le _)⟩ ?_
  clear hH
  rintro i w ⟨hH, hi⟩
  refine zr ?_
  refine zv (.lt (i < 64)) 0 ?_
  refine zn ?_
  refine cxSeq ?_
  refine zP (fun hc2 => ?_) (fun hc2 => ?_)
  refine cxSkip ?_
  refine qxThen ?_
  refine cxSeq ?_
  refine cxBlock ?_
  refine zr ?_
  refine zv .mv 1 ?_
  refine zv .mv 1 ?_
  refine zn ?_
  refine cxReg ?_
  refine zv .mv 1 ?_
  have hi3 : i < 64 := by omega
  refine zv (.ia 1 64 i (hi := hi3)) 0 ?_
  refine zs (hH.q 0 rfl) (.ld cByte ((mkx y i (ovr (l.take n) fun _ => 0)) i) (fun _ hS => ((holds_blk0 hS).elt hi3))) 1 ?_
  refine zv .mv 0 ?_
  refine zv (.xb (((mkx y i (ovr (l.take n) fun _ => 0)) i) ^^^ y) (u := ((mkx y i (ovr (l.take n) fun _ => 0)) i)) (v := y)) 3 ?_
  have hi4 : i < 64 := by omega
  refine zv (.ia 1 64 i (hi := hi4)) 2 ?_
  refine ze0 0 hH rfl (.st cByte (((mkx y i (ovr (l.take n) fun _ => 0)) i) ^^^ y) (room_1 (S := sBy) (C := (cArr 64)) rfl hi4) (arr_set0 (mkx y i (ovr (l.take n) fun _ => 0)) (((mkx y i (ovr (l.take n) fun _ => 0)) i) ^^^ y) hi4)) trivial ?_
  clear hH
  rintro _ _ w rfl hH
  refine pxEnd ?_
  refine qxInN ?_
  refine qxThen ?_
  replace hH : HH w0 [] [[bl g1 104 ((cArr 64).enc (mkx y (i + 1) (ovr (l.take n) fun _ => 0)))]] w := by rw [mkx_succ] at hH; exact hH
  refine cxReg ?_
  refine zv (.add ((i + 1 : Nat) : Int)) 7 ?_
  refine zv .mv 1 ?_
  refine pxEnd ?_
  exact zR1 (i + 1) ⟨hH, (by omega)⟩ (by omega)
  refine cxExit ?_
  refine qxThenE ?_
  refine qxThenE ?_
  refine qxInE ?_
  refine qxThen ?_
  obtain rfl : i = 64 := by omega
  refine zr ?_
  refine zm hH (.call Tryz.func74 (new_c)) (hH.oldBlk hR.2.1 (by simp)) 11 ?_
  clear hH
  rintro _ E6 w ⟨g5, rfl, hHa7⟩ hH
  refine zv .mv 1 ?_
  refine zn ?_
  refine zr ?_
  refine zv .mv 0 ?_
  refine zv (v := (.slice (some ⟨g1, 0, none⟩) 64 64)) (fun _ _ hF => opSliceA (n := 64) (e := 5) (sz := 1) rfl (by kernel_rfl) (by kernel_rfl) (hF.ev 2 rfl)) 4 ?_
  refine ze 1 hH rfl (.call Tryz.func58 (write_c g5 ([]) (lst 64 (mkx y 64 (ovr (l.take n) fun _ => 0))) E6 hHa7 (some ⟨g1, 0, none⟩) 64 64 (by simp [lst_len]))) (⟨(hH.oldBlk hR.1 (by simp)), (vu_arr (hH.blk 0 rfl)), hHa7.bks ▸ (hH.off2 1 0 rfl rfl rfl)⟩) 3 ?_
  clear hH
  rintro _ E8 w ⟨rfl, hHa9⟩ hH
  refine zn ?_
  refine zr ?_
  refine zv .mv 3 ?_
  refine zv .mv 1 ?_
  refine zn ?_
  refine cxRet ?_
  refine qxRet1 0 rfl rfl ?_
  exact ⟨_, _, rfl, ⟨_, rfl, mkx_pad hn y ▸ hHa9⟩, hH.out1 [false, true] rfl⟩

set_option maxHeartbeats 8000000 in
theorem mac_c (A : Option Addr) (n c : Nat) (l : List UInt8) (h64 : n ≤ 64) (B : Option Addr) (k d : Nat) (hs : List (Option Addr × Nat × Nat)) (ds : List (List UInt8)) (hd : ds.length = k) (hk : k ≤ 1000) (hb : ds.flatten.length ≤ 70368744177664) : Pure Tryz.prog 41 #[(.slice A n c), (.slice B k d)] (fun w => w.heap[1]? = some (.cells ((cWs 64).enc K32) 125 (0, 0)) ∧ w.heap[0]? = some (.cells ((cWs 8).enc H32) 115 (0, 0)) ∧ Vu cByte w A n c l ∧ Vu cSl w B k d hs ∧ ViewsL w hs ds) ((cArr 32).val (hmac l ds.flatten)) := by
  refine pure_of (fn := Tryz.f41) Tryz.func41 rfl Tryz.ntmps41 (Nat.le_of_ble_eq_true rfl) rfl ?_
  intro w0 hH hR
  have hn := hR.2.2.1.len; have hkl := hR.2.2.2.1.len
  refine zr ?_
  refine zm hH (.al (cArr 32) (fun _ => 0)) trivial 0 ?_
  clear hH
  rintro _ _ w ⟨g1, rfl, rfl⟩ hH
  refine zn ?_
  refine cxSeq ?_
  refine zr ?_
  refine zv .mv 0 ?_
  refine zv .len 1 ?_
  refine zv (.gt (n > 64)) 1 ?_
  refine zn ?_
  refine zP (fun hc2 => ?_) (fun hc2 => ?_)
  exact absurd h64 (by omega)
  refine cxSkip ?_
  refine qxThen ?_
  refine zr ?_
  refine zv .mv 1 ?_
  refine zm hH (.call Tryz.func57 (keyed_c A n c l h64 54)) (⟨(hH.oldBlk hR.1 (by simp)), (hH.oldBlk hR.2.1 (by simp)), (hH.vu hR.2.2.1 (by decide) (Off.nil _ _))⟩) 1 ?_
  clear hH
  rintro _ E4 w ⟨g3, rfl, hHa5⟩ hH
  refine zv .mv 1 ?_
  refine zn ?_
  refine cxSeq ?_
  refine zr ?_
  refine zv .mv 8 ?_
  refine zv .len 0 ?_
  refine zv .mv 0 ?_
  refine zn ?_
  refine cxBlock ?_
  refine zL2 (fun (i : Nat) (_ : Hl) => [(21, (.int .i64 (((i) : Nat) : Int))), (20, (.int .i64 (((k) : Nat) : Int))), (19, (.slice B k d)), (6, (.pointer (some ⟨g3, 0, none⟩))), (4, (.pointer (some ⟨g1, 0, none⟩))), (0, (.slice A n c))]) (fun i E1 w => HH w0 [] [[bl g1 22 ((cArr 32).enc (fun _ => 0))], E1] w ∧ (i ≤ k) ∧ (HaAt g3 (xpad l 54 ++ (ds.take i).flatten) E1)) (fun i _ => k - i) 0 E4 ⟨hH, (Nat.zero_le _), (by rw [List.take_zero, List.flatten_nil, List.append_nil]; exact hHa5)⟩ ?_
  clear hH
  rintro i E1 w ⟨hH, hi, hHa⟩
  refine zr ?_
  refine zv (.lt (i < k)) 0 ?_
  refine zn ?_
  refine cxSeq ?_
  refine zP (fun hc6 => ?_) (fun hc6 => ?_)
  refine cxSkip ?_
  refine qxThen ?_
  refine cxSeq ?_
  refine cxBlock ?_
  obtain ⟨⟨A1, n1, c1⟩, hx1⟩ := get_at hs i (by omega)
  obtain ⟨l1, hl1, hV1⟩ := hR.2.2.2.2 _ _ hx1
  obtain rfl : l1.length = n1 := hV1.len
  replace hV1 : Vu cByte w0 A1 l1.length c1 l1 := hV1
  have hfl1 := congrArg List.length (flatten_next hl1)
  rw [List.length_append] at hfl1
  have hle1 := flatten_le (ds := ds) (i + 1)
  refine zr ?_
  have hi7 : i < k := by omega
  obtain ⟨b8, off9, rfl, hL10, hb11, hR12⟩ := hR.2.2.2.1.blk (by decide) (Off.nil _ _) (by omega)
  have := hR.2.2.2.1.cap
  have hj15 : i < hs.length := by first | exact hi7 | (simp only [List.length_drop]; omega) | (simp only [List.length_drop, List.length_take]; omega) | omega
  refine zv (.ix 1 i (hi := hi7)) 1 ?_
  refine zs (S := fun w => HoldsL cSl w b8 off9 hs) (hH.holdsL hL10 hb11 hR12) (.ld cSl (A1, l1.length, c1) (fun _ hS => (hS i _ hx1)) (v := (.slice A1 l1.length c1))) 1 ?_
  refine zv .mv 1 ?_
  refine zn ?_
  refine cxReg ?_
  refine zv .mv 0 ?_
  refine zv .mv 2 ?_
  refine ze 1 hH rfl (.call Tryz.func58 (write_c g3 (xpad l 54 ++ (ds.take i).flatten) l1 E1 hHa A1 l1.length c1 (by rw [List.length_append, xpad_len]; omega))) (⟨(hH.oldBlk hR.1 (by simp)), (hH.vu hV1 (by decide) (Off.nil _ _)), hHa.bks ▸ (hH.off 1 rfl hV1 (by decide) (Off.nil _ _))⟩) 3 ?_
  clear hH
  rintro _ E16 w ⟨rfl, hHa17⟩ hH
  refine pxEnd ?_
  refine qxInN ?_
  refine qxThen ?_
  refine cxReg ?_
  refine zv (.add ((i + 1 : Nat) : Int)) 3 ?_
  refine zv .mv 1 ?_
  refine pxEnd ?_
  exact zR2 (i + 1) E16 ⟨hH, (by omega), (by rw [← flatten_next hl1, ← List.append_assoc]; exact hHa17)⟩ (by omega)
  refine cxExit ?_
  refine qxThenE ?_
  refine qxThenE ?_
  refine qxInE ?_
  refine qxThen ?_
  obtain rfl : i = k := by omega
  rw [List.take_of_length_le (by omega)] at hHa
  refine zr ?_
  refine zv .mv 31 ?_
  refine ze 1 hH rfl (.call Tryz.func59 (sum_c g3 (xpad l 54 ++ ds.flatten) E1 hHa (by rw [List.length_append, xpad_len]; first | omega | (rw [lst_len]; decide)))) (hH.oldBlk hR.1 (by simp)) 1 ?_
  clear hH
  rintro _ _ w ⟨rfl, rfl⟩ hH
  refine zm hH (.al (cArr 32) (fun _ => 0)) trivial 0 ?_
  clear hH
  rintro _ _ w ⟨g18, rfl, rfl⟩ hH
  refine ze0 2 hH rfl (.sw (cArr 32) (fun _ => 0) (sha (xpad l 54 ++ ds.flatten))) trivial ?_
  clear hH
  rintro _ _ w rfl hH
  refine zn ?_
  refine zr ?_
  refine zv .mv 10 ?_
  refine zm hH (.call Tryz.func57 (keyed_c A n c l h64 92)) (⟨(hH.oldBlk hR.1 (by simp)), (hH.oldBlk hR.2.1 (by simp)), (hH.vu hR.2.2.1 (by decide) (Off.nil _ _))⟩) 1 ?_
  clear hH
  rintro _ E20 w ⟨g19, rfl, hHa21⟩ hH
  refine zv .mv 1 ?_
  refine zn ?_
  refine zr ?_
  refine zv .mv 0 ?_
  refine zv (v := (.slice (some ⟨g18, 0, none⟩) 32 32)) (fun _ _ hF => opSliceA (n := 32) (e := 5) (sz := 1) rfl (by kernel_rfl) (by kernel_rfl) (hF.ev 2 rfl)) 4 ?_
  refine ze 3 hH rfl (.call Tryz.func58 (write_c g19 (xpad l 92) (lst 32 (sha (xpad l 54 ++ ds.flatten))) E20 hHa21 (some ⟨g18, 0, none⟩) 32 32 (by rw [xpad_len, lst_len]; decide))) (⟨(hH.oldBlk hR.1 (by simp)), (vu_arr (hH.blk 2 rfl)), hHa21.bks ▸ (hH.off2 3 2 rfl rfl rfl)⟩) 3 ?_
  clear hH
  rintro _ E22 w ⟨rfl, hHa23⟩ hH
  refine zn ?_
  refine zr ?_
  refine zv .mv 3 ?_
  refine ze 3 hH rfl (.call Tryz.func59 (sum_c g19 ((xpad l 92) ++ (lst 32 (sha (xpad l 54 ++ ds.flatten)))) E22 hHa23 (by rw [List.length_append, xpad_len]; first | omega | (rw [lst_len]; decide)))) (hH.oldBlk hR.1 (by simp)) 1 ?_
  clear hH
  rintro _ _ w ⟨rfl, rfl⟩ hH
  refine ze0 0 hH rfl (.sw (cArr 32) (fun _ => 0) (sha ((xpad l 92) ++ (lst 32 (sha (xpad l 54 ++ ds.flatten)))))) trivial ?_
  clear hH
  rintro _ _ w rfl hH
  refine zn ?_
  refine cxRet ?_
  refine qxRetC 1 (hH.blk 0 rfl) rfl rfl (by kernel_rfl) (Cod.size _ _) (by kernel_rfl) ?_
  exact ⟨by unfold hmac; rw [k0_short (show ¬ 64 < l.length by omega)]; rfl, HH.toBelow hH⟩

set_option maxHeartbeats 8000000 in
theorem rmac_c (A : Option Addr) (n c : Nat) (l : List UInt8) (h64 : n ≤ 64) (B : Option Addr) (k d : Nat) (m : List UInt8) (hb : k ≤ 70368744177664) : Pure Tryz.prog 48 #[(.slice A n c), (.slice B k d)] (fun w => Vu cByte w A n c l ∧ Vu cByte w B k d m) ((cArr 32).val (hmac l m)) := by
  refine pure_of (fn := Tryz.f48) Tryz.func48 rfl Tryz.ntmps48 (Nat.le_of_ble_eq_true rfl) rfl ?_
  intro w0 hH hR
  have hn := hR.1.len; have hm := hR.2.len
  refine zr ?_
  refine zm hH (.al (cArr 32) (fun _ => 0)) trivial 0 ?_
  clear hH
  rintro _ _ w ⟨g1, rfl, rfl⟩ hH
  refine zn ?_
  refine zr ?_
  refine zm hH (.al (cArr 64) (fun _ => 0)) trivial 0 ?_
  clear hH
  rintro _ _ w ⟨g2, rfl, rfl⟩ hH
  refine zn ?_
  refine cxSeq ?_
  refine zr ?_
  refine zv .mv 0 ?_
  refine zv .len 1 ?_
  refine zv (.gt (n > 64)) 1 ?_
  refine zn ?_
  refine zP (fun hc3 => ?_) (fun hc3 => ?_)
  exact absurd h64 (by omega)
  refine cxReg ?_
  refine zv (v := (.slice (some ⟨g2, 0, none⟩) 64 64)) (fun _ _ hF => opSliceA (n := 64) (e := 5) (sz := 1) rfl (by kernel_rfl) (by kernel_rfl) (hF.ev 1 rfl)) 1 ?_
  refine zv .mv 8 ?_
  refine ze 1 hH rfl (fun _ hF => smCopyK (C := cByte) (m := l) (e := 5) n (Nat.min_eq_left h64) rfl (by kernel_rfl) (by kernel_rfl) (ltb rfl) (hF.ev 1 rfl) (hF.ev 0 rfl) hn (by rw [Cod.size]; show 0 + n * 1 ≤ 64; omega) (arr_ovr _ _)) (hH.vu hR.1 (by decide) (Off.nil _ _)) 3 ?_
  clear hH
  rintro _ _ w ⟨rfl, rfl⟩ hH
  refine zn ?_
  refine zr ?_
  refine zv .mv 1 ?_
  refine zv .mv 0 ?_
  refine zn ?_
  refine cxSeq ?_
  refine zr ?_
  refine zv .mv 0 ?_
  refine zn ?_
  refine cxBlock ?_
  replace hH := HH.pad hH 1
  replace hH : HH w0 [] [[bl g1 22 ((cArr 32).enc (fun _ => 0))], [bl g2 104 ((cArr 64).enc (ovr (l.take n) (fun _ => 0)))], []] w := hH
  replace hH := HH.pad hH 1
  replace hH : HH w0 [] [[bl g1 22 ((cArr 32).enc (fun _ => 0))], [bl g2 104 ((cArr 64).enc (ovr (l.take n) (fun _ => 0)))], [], []] w := hH
  refine zL9 (fun (i : Nat) (A1 : Option Addr) (c1 : Nat) (L : List UInt8) (_ : Hl) (A2 : Option Addr) (c2 : Nat) (M : List UInt8) (_ : Hl) => [(22, (.int .i64 (((i) : Nat) : Int))), (8, (.slice A2 M.length c2)), (7, (.slice A1 L.length c1)), (5, (.pointer (some ⟨g2, 0, none⟩))), (4, (.pointer (some ⟨g1, 0, none⟩))), (1, (.slice B k d))]) (fun i A1 c1 L E1 A2 c2 M E2 w => HH w0 [] [[bl g1 22 ((cArr 32).enc (fun _ => 0))], [bl g2 104 ((cArr 64).enc (ovr (l.take n) (fun _ => 0)))], E1, E2] w ∧ (i ≤ 64) ∧ (OwnT cByte 5 (.slice A1 L.length c1) L E1) ∧ (L = lst i (fun j => (ovr (l.take n) fun _ => 0) j ^^^ 54)) ∧ (OwnT cByte 5 (.slice A2 M.length c2) M E2) ∧ (M = lst i (fun j => (ovr (l.take n) fun _ => 0) j ^^^ 92))) (fun i _ _ _ _ _ _ _ _ => 64 - i) 0 none 0 ([]) ([]) none 0 ([]) ([]) ⟨hH, (Nat.zero_le _), (OwnT.nil _ _), rfl, (OwnT.nil _ _), rfl⟩ ?_
  clear hH
  rintro i A1 c1 L E1 A2 c2 M E2 w ⟨hH, hi, hO, hL, hP, hM⟩
  refine zr ?_
  refine zv (.lt (i < 64)) 0 ?_
  refine zn ?_
  refine cxSeq ?_
  refine zP (fun hc4 => ?_) (fun hc4 => ?_)
  refine cxSkip ?_
  refine qxThen ?_
  refine cxSeq ?_
  refine cxBlock ?_
  have hLl := congrArg List.length hL
  have hMl := congrArg List.length hM
  rw [lst_len] at hLl hMl
  refine zr ?_
  refine zv .mv 1 ?_
  refine zv .mv 1 ?_
  refine zn ?_
  refine zr ?_
  refine zv .mv 8 ?_
  refine zv .mv 0 ?_
  have hi5 : i < 64 := by omega
  refine zv (.ia 1 64 i (hi := hi5)) 1 ?_
  refine zs (hH.q 1 rfl) (.ld cByte ((ovr (l.take n) (fun _ => 0)) i) (fun _ hS => ((holds_blk0 hS).elt hi5))) 1 ?_
  refine zv (.xb (((ovr (l.take n) (fun _ => 0)) i) ^^^ (54 : UInt8)) (u := ((ovr (l.take n) (fun _ => 0)) i)) (v := (54 : UInt8))) 1 ?_
  refine zm hH (fun _ hF => smLit1 (e := 5) (sz := 1) (z := (.int .u8 0)) (by_ := 1) (cs := cByte.enc (((ovr (l.take n) (fun _ => 0)) i) ^^^ (54 : UInt8))) rfl (by kernel_rfl) (by kernel_rfl) (hF.ev 0 rfl) (cByte.len (((ovr (l.take n) (fun _ => 0)) i) ^^^ (54 : UInt8))) (ltb rfl) (leb rfl) rfl) trivial 1 ?_
  clear hH
  rintro _ _ w ⟨g6, rfl, rfl⟩ hH
  refine ze 2 hH rfl (fun _ hF => smAppT (C := cByte) (l := L) (m := [(((ovr (l.take n) (fun _ => 0)) i) ^^^ (54 : UInt8))]) (e := 5) (z := (.int .u8 0)) (by_ := 1) rfl (by kernel_rfl) (by kernel_rfl) rfl (ltb rfl) (hF.ev 1 rfl) hO (hF.ev 0 rfl) rfl (fun h => by cases h) (by unfold maxLen; omega) (by omega)) ((Bk.lit1 (C := cByte) (((ovr (l.take n) (fun _ => 0)) i) ^^^ (54 : UInt8))).vu (n := 1) (hH.blk 4 rfl) rfl) 3 ?_
  clear hH
  rintro v9 E10 w ⟨hO11, _⟩ hH
  replace hO11 : OwnT cByte 5 v9 (L ++ [(((ovr (l.take n) (fun _ => 0)) i) ^^^ (54 : UInt8))]) E10 := hO11
  obtain ⟨A7, c8, rfl⟩ := hO11.slice
  refine zv .mv 1 ?_
  refine zn ?_
  refine cxReg ?_
  refine zv .mv 8 ?_
  refine zv .mv 4 ?_
  have hi12 : i < 64 := by omega
  refine zv (.ia 1 64 i (hi := hi12)) 1 ?_
  refine zs (hH.q 1 rfl) (.ld cByte ((ovr (l.take n) (fun _ => 0)) i) (fun _ hS => ((holds_blk0 hS).elt hi12))) 1 ?_
  refine zv (.xb (((ovr (l.take n) (fun _ => 0)) i) ^^^ (92 : UInt8)) (u := ((ovr (l.take n) (fun _ => 0)) i)) (v := (92 : UInt8))) 1 ?_
  refine zm hH (fun _ hF => smLit1 (e := 5) (sz := 1) (z := (.int .u8 0)) (by_ := 1) (cs := cByte.enc (((ovr (l.take n) (fun _ => 0)) i) ^^^ (92 : UInt8))) rfl (by kernel_rfl) (by kernel_rfl) (hF.ev 0 rfl) (cByte.len (((ovr (l.take n) (fun _ => 0)) i) ^^^ (92 : UInt8))) (ltb rfl) (leb rfl) rfl) trivial 1 ?_
  clear hH
  rintro _ _ w ⟨g13, rfl, rfl⟩ hH
  refine ze 3 hH rfl (fun _ hF => smAppT (C := cByte) (l := M) (m := [(((ovr (l.take n) (fun _ => 0)) i) ^^^ (92 : UInt8))]) (e := 5) (z := (.int .u8 0)) (by_ := 1) rfl (by kernel_rfl) (by kernel_rfl) rfl (ltb rfl) (hF.ev 1 rfl) hP (hF.ev 0 rfl) rfl (fun h => by cases h) (by unfold maxLen; omega) (by omega)) ((Bk.lit1 (C := cByte) (((ovr (l.take n) (fun _ => 0)) i) ^^^ (92 : UInt8))).vu (n := 1) (hH.blk 5 rfl) rfl) 3 ?_
  clear hH
  rintro v16 E17 w ⟨hO18, _⟩ hH
  replace hO18 : OwnT cByte 5 v16 (M ++ [(((ovr (l.take n) (fun _ => 0)) i) ^^^ (92 : UInt8))]) E17 := hO18
  obtain ⟨A14, c15, rfl⟩ := hO18.slice
  refine zv .mv 1 ?_
  refine pxEnd ?_
  refine qxInN ?_
  refine qxThen ?_
  refine cxReg ?_
  refine zv (.add ((i + 1 : Nat) : Int)) 4 ?_
  refine zv .mv 1 ?_
  refine pxEnd ?_
  replace hH : HH w0 [] [[bl g1 22 ((cArr 32).enc (fun _ => 0))], [bl g2 104 ((cArr 64).enc (ovr (l.take n) (fun _ => 0)))], E10, E17] w := hH.only [true, true, true, true, false, false]
  exact zR9 (i + 1) A7 c8 (L ++ [(((ovr (l.take n) (fun _ => 0)) i) ^^^ (54 : UInt8))]) E10 A14 c15 (M ++ [(((ovr (l.take n) (fun _ => 0)) i) ^^^ (92 : UInt8))]) E17 ⟨hH, (by omega), hO11, (by rw [hL, lst_succ]), hO18, (by rw [hM, lst_succ])⟩ (by omega)
  refine cxExit ?_
  refine qxThenE ?_
  refine qxThenE ?_
  refine qxInE ?_
  refine qxThen ?_
  obtain rfl : i = 64 := by omega
  rw [pad_x hn] at hL hM
  subst hL hM
  have hx1 := xpad_len l 54
  have hx2 := xpad_len l 92
  refine zr ?_
  refine zv .mv 27 ?_
  refine zv .mv 8 ?_
  refine ze 2 hH rfl (fun _ hF => smAppT (C := cByte) (l := (xpad l 54)) (m := m) (e := 5) (z := (.int .u8 0)) (by_ := 1) rfl (by kernel_rfl) (by kernel_rfl) rfl (ltb rfl) (hF.ev 1 rfl) hO (hF.ev 0 rfl) hm (fun h => ⟨by have := hR.2.nil h; have := hR.2.cap; omega, hR.2.nil h⟩) (by unfold maxLen; omega) (by omega)) (hH.vu hR.2 (by decide) (Off.nil _ _)) 3 ?_
  clear hH
  rintro v21 E22 w ⟨hO23, _⟩ hH
  replace hO23 : OwnT cByte 5 v21 ((xpad l 54) ++ m) E22 := hO23
  obtain ⟨A19, c20, rfl⟩ := hO23.slice
  refine zc Tryz.func68 (rsum_c A19 (((xpad l 54) ++ m).length) c20 ((xpad l 54) ++ m) (by rw [List.length_append, xpad_len]; first | omega | (rw [lst_len]; decide))) (hO23.vuAt (hH.has 2 rfl)) hH 1 ?_
  clear hH
  intro w hH
  refine zm hH (.al (cArr 32) (fun _ => 0)) trivial 0 ?_
  clear hH
  rintro _ _ w ⟨g24, rfl, rfl⟩ hH
  refine ze0 4 hH rfl (.sw (cArr 32) (fun _ => 0) (sha ((xpad l 54) ++ m))) trivial ?_
  clear hH
  rintro _ _ w rfl hH
  refine zn ?_
  refine zr ?_
  refine zv .mv 6 ?_
  refine zv (v := (.slice (some ⟨g24, 0, none⟩) 32 32)) (fun _ _ hF => opSliceA (n := 32) (e := 5) (sz := 1) rfl (by kernel_rfl) (by kernel_rfl) (hF.ev 1 rfl)) 2 ?_
  refine ze 3 hH rfl (fun _ hF => smAppT (C := cByte) (l := (xpad l 92)) (m := (lst 32 (sha ((xpad l 54) ++ m)))) (e := 5) (z := (.int .u8 0)) (by_ := 1) rfl (by kernel_rfl) (by kernel_rfl) rfl (ltb rfl) (hF.ev 1 rfl) hP (hF.ev 0 rfl) rfl (fun h => by cases h) (by unfold maxLen; omega) (by omega)) (vu_arr (hH.blk 4 rfl)) 3 ?_
  clear hH
  rintro v27 E28 w ⟨hO29, _⟩ hH
  replace hO29 : OwnT cByte 5 v27 ((xpad l 92) ++ (lst 32 (sha ((xpad l 54) ++ m)))) E28 := hO29
  obtain ⟨A25, c26, rfl⟩ := hO29.slice
  refine zc Tryz.func68 (rsum_c A25 (((xpad l 92) ++ (lst 32 (sha ((xpad l 54) ++ m)))).length) c26 ((xpad l 92) ++ (lst 32 (sha ((xpad l 54) ++ m)))) (by rw [List.length_append, xpad_len]; first | omega | (rw [lst_len]; decide))) (hO29.vuAt (hH.has 3 rfl)) hH 1 ?_
  clear hH
  intro w hH
  refine ze0 0 hH rfl (.sw (cArr 32) (fun _ => 0) (sha ((xpad l 92) ++ (lst 32 (sha ((xpad l 54) ++ m)))))) trivial ?_
  clear hH
  rintro _ _ w rfl hH
  refine zn ?_
  refine cxRet ?_
  refine qxRetC 1 (hH.blk 0 rfl) rfl rfl (by kernel_rfl) (Cod.size _ _) (by kernel_rfl) ?_
  exact ⟨by unfold hmac; rw [k0_short (show ¬ 64 < l.length by omega)]; rfl, HH.toBelow hH⟩
end Go.Proofs.YtfloiekaiiapnaaGreatDoor

namespace Go.Proofs.YtfloiekaiiapnaaGreatDoor
open Go Go.RowKit

section
variable {P : Program} {o : Oper} {n : Sz} {l : Slots} {v z : Value} {x y : Operand} {ty t t2 : TypeId} {g k : Nat} {cs cs' xs : Array Value} {kk yk : IntKind} {m j q : Nat}
/-! ### Unsigned numbers -/
theorem Vl.pu (q : Nat) (ho : o.op = .binOp .add t x y t2 := by exact rfl) (hx : vo l x = some (.int kk (m : Int)) := by exact rfl) (hy : vo l y = some (.int kk (j : Int)) := by exact rfl) (hs : kk.signed = false := by exact rfl) (hz : (m + j) % 2 ^ kk.bits = q := by exact rfl) : Vl P n l o (.int kk (q : Int)) := fun _ _ hF => opAddU hs ho (hF.vo hx) (hF.vo hy) hz
end
end Go.Proofs.YtfloiekaiiapnaaGreatDoor

namespace Go.Proofs.YtfloiekaiiapnaaGreatDoor
open Go Go.RowKit
set_option maxRecDepth 100000

set_option maxHeartbeats 8000000 in
theorem rjoin_c (A : Option Addr) (n c : Nat) (hs : List (Option Addr × Nat × Nat)) (ds : List (List UInt8)) (hd : ds.length = n) (hn2 : n ≤ 1000) (hb : ds.flatten.length ≤ 70368744177664) : Does Tryz.prog 18 #[(.slice A n c)] [] (fun w => Vu cSl w A n c hs ∧ ViewsL w hs ds) (fun v E' => OwnT cByte 5 v ds.flatten E') := by
  refine does_of (fn := Tryz.f18) Tryz.func18 rfl Tryz.ntmps18 (Nat.le_of_ble_eq_true rfl) rfl ?_
  intro w0 hH hR
  replace hH : HH w0 [] [] w0 := hH.only [false]
  have hn := hR.1.len; have hcap := hR.1.cap
  refine zr ?_
  refine zv .mv 0 ?_
  refine zn ?_
  refine zr ?_
  refine zv .mv 1 ?_
  refine zn ?_
  refine cxSeq ?_
  refine zr ?_
  refine zv .mv 0 ?_
  refine zv .len 1 ?_
  refine zv .mv 0 ?_
  refine zn ?_
  refine cxBlock ?_
  replace hH := HH.pad hH 1
  replace hH : HH w0 [] [[]] w0 := hH
  refine zL5 (fun (j : Nat) (A2 : Option Addr) (c2 : Nat) (L : List UInt8) (_ : Hl) => [(7, (.int .i64 (((j) : Nat) : Int))), (6, (.int .i64 (((n) : Nat) : Int))), (3, (.slice A2 L.length c2)), (0, (.slice A n c))]) (fun j A2 c2 L E2 w => HH w0 [] [E2] w ∧ (j ≤ n) ∧ (OwnT cByte 5 (.slice A2 L.length c2) L E2) ∧ (L = (ds.take j).flatten)) (fun j _ _ _ _ => n - j) 0 none 0 ([]) ([]) ⟨hH, (Nat.zero_le _), (OwnT.nil _ _), (by simp)⟩ ?_
  clear hH
  rintro j A2 c2 L E2 w ⟨hH, hj, hO, hL⟩
  refine zr ?_
  refine zv (.lt (j < n)) 0 ?_
  refine zn ?_
  refine cxSeq ?_
  refine zP (fun hc1 => ?_) (fun hc1 => ?_)
  refine cxSkip ?_
  refine qxThen ?_
  refine cxSeq ?_
  refine cxBlock ?_
  refine zr ?_
  refine zv .mv 1 ?_
  refine zv .mv 1 ?_
  refine zn ?_
  have hLl := congrArg List.length hL
  obtain ⟨⟨A1, n1, c1⟩, hx1⟩ := get_at hs j (by omega)
  obtain ⟨l1, hl1, hV1⟩ := hR.2 _ _ hx1
  obtain rfl : l1.length = n1 := hV1.len
  replace hV1 : Vu cByte w0 A1 l1.length c1 l1 := hV1
  have hcap1 := hV1.cap
  have hfl1 := congrArg List.length (flatten_next hl1)
  rw [List.length_append] at hfl1
  have hle1 := flatten_le (ds := ds) (j + 1)
  refine cxReg ?_
  refine zv .mv 8 ?_
  refine zv .mv 0 ?_
  refine zv .mv 4 ?_
  have hi2 : j < n := by omega
  obtain ⟨b3, off4, rfl, hL5, hb6, hR7⟩ := hR.1.blk (by decide) (Off.nil _ _) (by omega)
  have := hR.1.cap
  have hj10 : j < hs.length := by first | exact hi2 | (simp only [List.length_drop]; omega) | (simp only [List.length_drop, List.length_take]; omega) | omega
  refine zv (.ix 1 j (hi := hi2)) 3 ?_
  refine zs (S := fun w => HoldsL cSl w b3 off4 hs) (hH.holdsL hL5 hb6 hR7) (.ld cSl (A1, l1.length, c1) (fun _ hS => (hS j _ hx1)) (v := (.slice A1 l1.length c1))) 1 ?_
  refine ze 0 hH rfl (fun _ hF => smAppT (C := cByte) (l := L) (m := l1) (e := 5) (z := (.int .u8 0)) (by_ := 1) rfl (by kernel_rfl) (by kernel_rfl) rfl (ltb rfl) (hF.ev 1 rfl) hO (hF.ev 0 rfl) rfl (fun h => ⟨by have := hV1.nil h; have := hV1.cap; omega, hV1.nil h⟩) (by unfold maxLen; omega) (by omega)) (hH.vu hV1 (by decide) (Off.nil _ _)) 3 ?_
  clear hH
  rintro v13 E14 w ⟨hO15, _⟩ hH
  replace hO15 : OwnT cByte 5 v13 (L ++ l1) E14 := hO15
  obtain ⟨A11, c12, rfl⟩ := hO15.slice
  refine zv .mv 1 ?_
  refine pxEnd ?_
  refine qxInN ?_
  refine qxThen ?_
  refine cxReg ?_
  refine zv (.add ((j + 1 : Nat) : Int)) 2 ?_
  refine zv .mv 1 ?_
  refine pxEnd ?_
  exact zR5 (j + 1) A11 c12 (L ++ l1) E14 ⟨hH, (by omega), hO15, (by rw [hL]; exact flatten_next hl1)⟩ (by omega)
  refine cxExit ?_
  refine qxThenE ?_
  refine qxThenE ?_
  refine qxInE ?_
  refine qxThen ?_
  refine zr ?_
  refine zv .mv 31 ?_
  refine zv .mv 1 ?_
  refine zn ?_
  refine cxRet ?_
  refine qxRet1 0 rfl rfl ?_
  have hjn : j = n := by omega
  rw [hjn, List.take_of_length_le (by omega)] at hL
  exact ⟨_, _, rfl, hL ▸ hO, hH.out1 [true] rfl⟩
end Go.Proofs.YtfloiekaiiapnaaGreatDoor

namespace Go.Proofs.YtfloiekaiiapnaaGreatDoor
open Go Go.RowKit
set_option maxRecDepth 100000

theorem lst_enc (g : Nat) (t : TypeId) (f : Nat → UInt8) : OwnT cByte t (.slice (some ⟨g, 0, none⟩) 32 32) (lst 32 f) [bl g t ((cArr 32).enc f)] :=
  OwnT.made (by rw [flat_lst]; rfl) (by rw [lst_len]; unfold maxLen; decide) (lst_len _ _)
theorem tick (i : Nat) : ((UInt8.ofNat (i + 1)).toNat + 1) % 2 ^ 8 = (UInt8.ofNat (i + 1 + 1)).toNat := by
  rw [UInt8.toNat_ofNat', UInt8.toNat_ofNat']
  omega

set_option maxHeartbeats 8000000 in
theorem hkdf_c (A : Option Addr) (n c : Nat) (s : List UInt8) (h64 : n ≤ 64) (B : Option Addr) (k d : Nat) (z : List UInt8) (hz : k ≤ 70368744177000) (D : Option Addr) (j e : Nat) (o : List UInt8) (hj : j ≤ 70368744177000) (m : Nat) (h1 : 1 ≤ m) (h8 : m ≤ 8160) : Does Tryz.prog 26 #[(.slice A n c), (.slice B k d), (.slice D j e), (.int .i64 (((m) : Nat) : Int))] [] (fun w => w.heap[1]? = some (.cells ((cWs 64).enc K32) 125 (0, 0)) ∧ w.heap[0]? = some (.cells ((cWs 8).enc H32) 115 (0, 0)) ∧ Vu cByte w A n c s ∧ Vu cByte w B k d z ∧ Vu cByte w D j e o) (fun v E' => OwnT cByte 5 v (okmL s z o m) E') := by
  refine does_of (fn := Tryz.f26) Tryz.func26 rfl Tryz.ntmps26 (Nat.le_of_ble_eq_true rfl) rfl ?_
  intro w0 hH hR
  replace hH : HH w0 [] [] w0 := hH.only [false]
  have hn := hR.2.2.1.len; have hkl := hR.2.2.2.1.len; have hjl := hR.2.2.2.2.len
  refine zr ?_
  refine zv .mv 0 ?_
  refine zn ?_
  refine cxSeq ?_
  refine zr ?_
  refine zv .mv 1 ?_
  refine zv (v := (.bool false)) (fun _ _ hF => opLss rfl (hF.ev 0 rfl) rfl (decide_eq_false (by omega))) 1 ?_
  refine zv .mv 1 ?_
  refine pxV (v := (.int .i64 (((m) : Nat) : Int))) (fun _ _ hF => opMove rfl (hF.ev 4 rfl)) rfl (gOn 0 rfl rfl rfl (by decide)) (kA rfl) (by decide) ?_
  refine pxV (v := (.bool false)) (fun _ _ hF => opGtr rfl (hF.ev 0 rfl) rfl (decide_eq_false (by omega))) rfl (gOn 1 rfl rfl rfl (by decide)) (kM [false, true, true, true, true, true] rfl rfl) (by decide) ?_
  refine zv (v := (.bool false)) (fun _ _ hF => opPickF rfl (hF.ev 1 rfl) (hF.ev 0 rfl)) 3 ?_
  refine zn ?_
  refine zF ?_
  refine cxSkip ?_
  refine qxThen ?_
  refine zr ?_
  refine zv .mv 3 ?_
  refine zv .mv 2 ?_
  refine zm hH (fun _ hF => smLit1 (e := 23) (sz := 1) (z := (.slice none 0 0)) (by_ := 24) (cs := cSl.enc (B, k, d)) rfl (by kernel_rfl) (by kernel_rfl) (hF.ev 0 rfl) (cSl.len (B, k, d)) (ltb rfl) (leb rfl) rfl) trivial 1 ?_
  clear hH
  rintro _ _ w ⟨g1, rfl, rfl⟩ hH
  refine zc Tryz.func41 ((mac_c A n c s h64 (some ⟨g1, 0, none⟩) 1 1 [(B, k, d)] [z] rfl (by decide) (by simp only [List.flatten_cons, List.flatten_nil, List.length_append, List.length_nil]; omega)).as (by rw [show [z].flatten = _ from (by rw [List.flatten_cons, List.flatten_nil, List.append_nil])])) (⟨(hH.oldBlk hR.1 (by simp)), (hH.oldBlk hR.2.1 (by simp)), (hH.vu hR.2.2.1 (by decide) (Off.nil _ _)), ((Bk.lit1 (C := cSl) (B, k, d)).vu (n := 1) (hH.blk 0 rfl) rfl), (.cons (hH.vu hR.2.2.2.1 (by decide) (Off.nil _ _)) ViewsL.nil)⟩) hH 3 ?_
  clear hH
  intro w hH
  refine zm hH (.al (cArr 32) (fun _ => 0)) trivial 0 ?_
  clear hH
  rintro _ _ w ⟨g2, rfl, rfl⟩ hH
  refine ze0 1 hH rfl (.sw (cArr 32) (fun _ => 0) (hmac s z)) trivial ?_
  clear hH
  rintro _ _ w rfl hH
  refine zn ?_
  refine zr ?_
  refine zv .mv 2 ?_
  refine zm hH (fun _ hF => smMake0 (e := 5) (n := m) (sz := 1) (by_ := 1) (z := (.int .u8 0)) (cs := madeCells (cByte.enc 0) (m * 1)) rfl (by kernel_rfl) (by kernel_rfl) rfl (hF.ev 0 rfl) rfl (by omega) (by omega) rfl) trivial 1 ?_
  clear hH
  rintro _ _ w ⟨g3, rfl, rfl⟩ hH
  refine zv .mv 1 ?_
  refine zn ?_
  refine zr ?_
  refine zv .mv 0 ?_
  refine zn ?_
  refine cxSeq ?_
  refine zr ?_
  refine zv .mv 0 ?_
  refine zn ?_
  refine cxBlock ?_
  replace hH : HH w0 [] [[bl g2 22 ((cArr 32).enc (hmac s z))], [bl g3 5 (madeCells (cByte.enc 0) (m * 1))]] w := hH.only [false, true, true]
  replace hH := HH.pad hH 1
  replace hH : HH w0 [] [[bl g2 22 ((cArr 32).enc (hmac s z))], [bl g3 5 (madeCells (cByte.enc 0) (m * 1))], []] w := hH
  refine zL9 (fun (i : Nat) (A1 : Option Addr) (c1 : Nat) (L : List UInt8) (_ : Hl) (A2 : Option Addr) (n2 : Nat) (c2 : Nat) (_ : Hl) => [(12, (.int .u8 ((((UInt8.ofNat (i + 1)).toNat) : Nat) : Int))), (11, (.slice A2 n2 c2)), (10, (.slice A1 L.length c1)), (9, (.pointer (some ⟨g2, 0, none⟩))), (3, (.int .i64 (((m) : Nat) : Int))), (2, (.slice D j e))]) (fun i A1 c1 L E1 A2 n2 c2 E2 w => HH w0 [] [[bl g2 22 ((cArr 32).enc (hmac s z))], E1, E2] w ∧ (OwnT cByte 5 (.slice A1 L.length c1) L E1) ∧ (L = (tCat (lst 32 (hmac s z)) o i).take m) ∧ (OwnT cByte 22 (.slice A2 n2 c2) (tK (lst 32 (hmac s z)) o i) E2) ∧ (n2 = (tK (lst 32 (hmac s z)) o i).length) ∧ (L.length = min m (32 * i)) ∧ (i ≤ 255)) (fun i _ _ _ _ _ _ _ _ => 255 - i) 0 (some ⟨g3, 0, none⟩) m ([]) ([bl g3 5 (madeCells (cByte.enc 0) (m * 1))]) none 0 0 ([]) ⟨hH, ((Bk.make0 (C := cByte) 0 m (by unfold maxLen; omega)).own 5 g3 rfl), List.take_nil.symm, (OwnT.nil _ _), rfl, (show 0 = min m (32 * 0) by omega), (show 0 ≤ 255 by decide)⟩ ?_
  clear hH
  rintro i A1 c1 L E1 A2 n2 c2 E2 w ⟨hH, hO, hL, hP, hn2, hlen, hi⟩
  refine cxSeq ?_
  refine zr ?_
  refine zv .mv 0 ?_
  refine zv .len 1 ?_
  refine zv .mv 0 ?_
  refine zv (.lt (L.length < m)) 3 ?_
  refine zn ?_
  refine zP (fun hc4 => ?_) (fun hc4 => ?_)
  refine cxSkip ?_
  refine qxThen ?_
  refine cxSeq ?_
  refine cxBlock ?_
  have htl := tK_le (lst 32 (hmac s z)) o i
  refine zr ?_
  refine zv (v := (.slice (some ⟨g2, 0, none⟩) 32 32)) (fun _ _ hF => opSliceA (n := 32) (e := 5) (sz := 1) rfl (by kernel_rfl) (by kernel_rfl) (hF.ev 4 rfl)) 1 ?_
  refine zv .mv 4 ?_
  refine zv .mv 0 ?_
  refine zv .mv 0 ?_
  refine zm hH (fun _ hF => smLit1 (e := 5) (sz := 1) (z := (.int .u8 0)) (by_ := 1) (cs := cByte.enc (UInt8.ofNat (i + 1))) rfl (by kernel_rfl) (by kernel_rfl) (hF.ev 0 rfl) (cByte.len (UInt8.ofNat (i + 1))) (ltb rfl) (leb rfl) rfl) trivial 1 ?_
  clear hH
  rintro _ _ w ⟨g5, rfl, rfl⟩ hH
  refine zm hH (fun _ hF => smLits (C := cSl) (e := 23) (z := (.slice none 0 0)) (by_ := 24) [(A2, n2, c2), (D, j, e), ((some ⟨g5, 0, none⟩), 1, 1)] rfl (by kernel_rfl) (by kernel_rfl) (EvP.cons (v := cSl.val (A2, n2, c2)) (hF.ev 2 rfl) (EvP.cons (v := cSl.val (D, j, e)) (hF.ev 1 rfl) (EvP.cons (v := cSl.val ((some ⟨g5, 0, none⟩), 1, 1)) (hF.ev 0 rfl) EvP.nil))) rfl (ltb rfl) (leb rfl) rfl) trivial 7 ?_
  clear hH
  rintro _ _ w ⟨g6, rfl, rfl⟩ hH
  refine zc Tryz.func41 ((mac_c (some ⟨g2, 0, none⟩) 32 32 (lst 32 (hmac s z)) (by decide) (some ⟨g6, 0, none⟩) 3 3 [(A2, n2, c2), (D, j, e), ((some ⟨g5, 0, none⟩), 1, 1)] [(tK (lst 32 (hmac s z)) o i), o, [(UInt8.ofNat (i + 1))]] rfl (by decide) (by simp only [List.flatten_cons, List.flatten_nil, List.length_append, List.length_cons, List.length_nil]; omega)).as (by rw [show [(tK (lst 32 (hmac s z)) o i), o, [(UInt8.ofNat (i + 1))]].flatten = _ from (by rw [List.flatten_cons, List.flatten_cons, List.flatten_cons, List.flatten_nil, List.append_nil])])) (⟨(hH.oldBlk hR.1 (by simp)), (hH.oldBlk hR.2.1 (by simp)), (vu_arr (hH.blk 0 rfl)), ((Bk.lits (C := cSl) [(A2, n2, c2), (D, j, e), ((some ⟨g5, 0, none⟩), 1, 1)] (by show 3 ≤ _; unfold maxLen; decide)).vu (n := 3) (hH.blk 4 rfl) rfl), (.cons (hP.vuAt (hH.has 2 rfl)) (.cons (hH.vu hR.2.2.2.2 (by decide) (Off.nil _ _)) (.cons ((Bk.lit1 (C := cByte) (UInt8.ofNat (i + 1))).vu (n := 1) (hH.blk 3 rfl) rfl) ViewsL.nil)))⟩) hH 3 ?_
  clear hH
  intro w hH
  refine zm hH (.al (cArr 32) (fun _ => 0)) trivial 0 ?_
  clear hH
  rintro _ _ w ⟨g7, rfl, rfl⟩ hH
  refine ze0 5 hH rfl (.sw (cArr 32) (fun _ => 0) (hmac (lst 32 (hmac s z)) ((tK (lst 32 (hmac s z)) o i) ++ (o ++ [(UInt8.ofNat (i + 1))])))) trivial ?_
  clear hH
  rintro _ _ w rfl hH
  refine zn ?_
  refine zr ?_
  refine zv .mv 2 ?_
  refine zv .mv 0 ?_
  refine zv .mv 16 ?_
  refine zv .len 1 ?_
  refine zv (.sub (((m - L.length) : Nat) : Int)) 3 ?_
  refine zv (v := (.int .i64 (((min 32 (m - L.length)) : Nat) : Int))) (fun _ _ hF => opMin rfl rfl (hF.ev 0 rfl) (by omega)) 1 ?_
  refine zv (v := (.slice (some ⟨g7, 0, none⟩) (min 32 (m - L.length)) 32)) (fun _ _ hF => opSliceAH (m := 32) (h := min 32 (m - L.length)) (e := 5) (sz := 1) rfl (by kernel_rfl) (by kernel_rfl) (hF.ev 2 rfl) (hF.ev 0 rfl) rfl (by omega)) 1 ?_
  refine ze 1 hH rfl (fun _ hF => smAppT (C := cByte) (l := L) (m := ((lst 32 (hmac (lst 32 (hmac s z)) ((tK (lst 32 (hmac s z)) o i) ++ (o ++ [(UInt8.ofNat (i + 1))])))).take (min 32 (m - L.length)))) (e := 5) (z := (.int .u8 0)) (by_ := 1) rfl (by kernel_rfl) (by kernel_rfl) rfl (ltb rfl) (hF.ev 1 rfl) hO (hF.ev 0 rfl) (by rw [List.length_take, lst_len]; omega) (fun h => by cases h) (by unfold maxLen; omega) (by omega)) ((vu_arr (hH.blk 5 rfl)).head (m := min 32 (m - L.length)) (by omega)) 3 ?_
  clear hH
  rintro v10 E11 w ⟨hO12, _⟩ hH
  replace hO12 : OwnT cByte 5 v10 (L ++ ((lst 32 (hmac (lst 32 (hmac s z)) ((tK (lst 32 (hmac s z)) o i) ++ (o ++ [(UInt8.ofNat (i + 1))])))).take (min 32 (m - L.length)))) E11 := hO12
  obtain ⟨A8, c9, rfl⟩ := hO12.slice
  refine zv .mv 1 ?_
  refine zn ?_
  refine cxReg ?_
  refine zv (v := (.slice (some ⟨g7, 0, none⟩) 32 32)) (fun _ _ hF => opSliceA (n := 32) (e := 5) (sz := 1) rfl (by kernel_rfl) (by kernel_rfl) (hF.ev 1 rfl)) 2 ?_
  refine zv .mv 1 ?_
  refine pxEnd ?_
  refine qxInN ?_
  refine qxThen ?_
  refine cxReg ?_
  refine zv .mv 4 ?_
  refine zv (.pu (UInt8.ofNat (i + 1 + 1)).toNat (m := (UInt8.ofNat (i + 1)).toNat) (j := 1) (kk := .u8) (hz := tick i)) 1 ?_
  refine zv .mv 1 ?_
  refine pxEnd ?_
  replace hH : HH w0 [] [[bl g2 22 ((cArr 32).enc (hmac s z))], E11, [bl g7 22 ((cArr 32).enc (hmac (lst 32 (hmac s z)) ((tK (lst 32 (hmac s z)) o i) ++ (o ++ [(UInt8.ofNat (i + 1))]))))]] w := hH.only [true, true, false, false, false, true]
  exact zR9 (i + 1) A8 c9 (L ++ ((lst 32 (hmac (lst 32 (hmac s z)) ((tK (lst 32 (hmac s z)) o i) ++ (o ++ [(UInt8.ofNat (i + 1))])))).take (min 32 (m - L.length)))) E11 (some ⟨g7, 0, none⟩) 32 32 ([bl g7 22 ((cArr 32).enc (hmac (lst 32 (hmac s z)) ((tK (lst 32 (hmac s z)) o i) ++ (o ++ [(UInt8.ofNat (i + 1))]))))]) ⟨hH, hO12, (by rw [hL]; exact tCat_go _ _), (lst_enc g7 22 (hmac (lst 32 (hmac s z)) ((tK (lst 32 (hmac s z)) o i) ++ (o ++ [(UInt8.ofNat (i + 1))])))), (tK_len _ _ _).symm, (by rw [List.length_append, List.length_take, lst_len]; omega), (by omega)⟩ (by omega)
  refine cxExit ?_
  refine qxThenE ?_
  refine qxThenE ?_
  refine qxInE ?_
  refine qxThen ?_
  refine zr ?_
  refine zv .mv 127 ?_
  refine zv .mv 1 ?_
  refine zn ?_
  refine cxRet ?_
  refine qxRet1 0 rfl rfl ?_
  rw [← okm_of s z o hi (by omega)] at hL
  subst hL
  exact ⟨_, _, rfl, hO, hH.out1 [false, true, false] rfl⟩

theorem flat3 (a b c : List UInt8) : [a, b, c].flatten = a ++ (b ++ c) := by
  rw [List.flatten_cons, List.flatten_cons, List.flatten_cons, List.flatten_nil, List.append_nil]
theorem rjoin3 (A : Option Addr) (c : Nat) (hs : List (Option Addr × Nat × Nat)) (a b d : List UInt8) (hb : a.length + (b.length + d.length) ≤ 70368744177664) : Does Tryz.prog 18 #[.slice A 3 c] [] (fun w => Vu cSl w A 3 c hs ∧ ViewsL w hs [a, b, d]) (fun v E' => OwnT cByte 5 v (a ++ (b ++ d)) E') := by
  have h := rjoin_c A 3 c hs [a, b, d] rfl (by decide) (by rw [flat3, List.length_append, List.length_append]; exact hb)
  rw [flat3] at h
  exact h

end Go.Proofs.YtfloiekaiiapnaaGreatDoor

namespace Go.Proofs.YtfloiekaiiapnaaGreatDoor
open Go Go.RowKit
set_option maxRecDepth 100000

set_option maxHeartbeats 8000000 in
theorem rhkdfs_c (A : Option Addr) (n c : Nat) (s : List UInt8) (h64 : 0 < n ∧ n ≤ 64) (B : Option Addr) (k d : Nat) (z : List UInt8) (hz : k ≤ 70368744177000) (D : Option Addr) (j e : Nat) (o : List UInt8) (hj : j ≤ 70368744177000) (m : Nat) (h1 : 1 ≤ m) (h8 : m ≤ 8160) : Does Tryz.prog 34 #[(.slice A n c), (.slice B k d), (.slice D j e), (.int .i64 (((m) : Nat) : Int))] [] (fun w => Vu cByte w A n c s ∧ Vu cByte w B k d z ∧ Vu cByte w D j e o) (fun v E' => OwnT cByte 5 v (okmL s z o m) E') := by
  refine does_of (fn := Tryz.f34) Tryz.func34 rfl Tryz.ntmps34 (Nat.le_of_ble_eq_true rfl) rfl ?_
  intro w0 hH hR
  replace hH : HH w0 [] [] w0 := hH.only [false]
  have hn := hR.1.len; have hkl := hR.2.1.len; have hjl := hR.2.2.len
  refine zr ?_
  refine zv .mv 0 ?_
  refine zn ?_
  refine cxSeq ?_
  refine zr ?_
  refine zv .mv 1 ?_
  refine zv (v := (.bool false)) (fun _ _ hF => opLss rfl (hF.ev 0 rfl) rfl (decide_eq_false (by omega))) 1 ?_
  refine zv .mv 1 ?_
  refine pxV (v := (.int .i64 (((m) : Nat) : Int))) (fun _ _ hF => opMove rfl (hF.ev 4 rfl)) rfl (gOn 0 rfl rfl rfl (by decide)) (kA rfl) (by decide) ?_
  refine pxV (v := (.bool false)) (fun _ _ hF => opGtr rfl (hF.ev 0 rfl) rfl (decide_eq_false (by omega))) rfl (gOn 1 rfl rfl rfl (by decide)) (kM [false, true, true, true, true, true] rfl rfl) (by decide) ?_
  refine zv (v := (.bool false)) (fun _ _ hF => opPickF rfl (hF.ev 1 rfl) (hF.ev 0 rfl)) 3 ?_
  refine zn ?_
  refine zF ?_
  refine cxSkip ?_
  refine qxThen ?_
  refine cxSeq ?_
  refine zr ?_
  refine zv .mv 1 ?_
  refine zv .len 1 ?_
  refine zv (v := (.bool false)) (fun _ _ hF => opEqI rfl (hF.ev 0 rfl) rfl (decide_eq_false (by omega))) 1 ?_
  refine zn ?_
  refine zF ?_
  refine cxSkip ?_
  refine qxThen ?_
  refine zr ?_
  refine zv .mv 3 ?_
  refine zv .mv 2 ?_
  refine zc Tryz.func48 (rmac_c A n c s (by first | decide | omega) B k d z (by omega)) (⟨(hH.vu hR.1 (by decide) (Off.nil _ _)), (hH.vu hR.2.1 (by decide) (Off.nil _ _))⟩) hH 3 ?_
  clear hH
  intro w hH
  refine zm hH (.al (cArr 32) (fun _ => 0)) trivial 0 ?_
  clear hH
  rintro _ _ w ⟨g1, rfl, rfl⟩ hH
  refine ze0 0 hH rfl (.sw (cArr 32) (fun _ => 0) (hmac s z)) trivial ?_
  clear hH
  rintro _ _ w rfl hH
  refine zn ?_
  refine zr ?_
  refine zv .mv 2 ?_
  refine zv .mv 0 ?_
  refine zn ?_
  refine cxSeq ?_
  refine zr ?_
  refine zv .mv 0 ?_
  refine zn ?_
  refine cxBlock ?_
  replace hH : HH w0 [] [[bl g1 22 ((cArr 32).enc (hmac s z))]] w := hH.only [true]
  replace hH := HH.pad hH 1
  replace hH : HH w0 [] [[bl g1 22 ((cArr 32).enc (hmac s z))], []] w := hH
  replace hH := HH.pad hH 1
  replace hH : HH w0 [] [[bl g1 22 ((cArr 32).enc (hmac s z))], [], []] w := hH
  refine zL9 (fun (i : Nat) (A1 : Option Addr) (c1 : Nat) (L : List UInt8) (_ : Hl) (A2 : Option Addr) (n2 : Nat) (c2 : Nat) (_ : Hl) => [(12, (.int .i64 (((i + 1) : Nat) : Int))), (11, (.slice A2 n2 c2)), (10, (.slice A1 L.length c1)), (9, (.pointer (some ⟨g1, 0, none⟩))), (3, (.int .i64 (((m) : Nat) : Int))), (2, (.slice D j e))]) (fun i A1 c1 L E1 A2 n2 c2 E2 w => HH w0 [] [[bl g1 22 ((cArr 32).enc (hmac s z))], E1, E2] w ∧ (OwnT cByte 5 (.slice A1 L.length c1) L E1) ∧ (L = tCat (lst 32 (hmac s z)) o i) ∧ (OwnT cByte 22 (.slice A2 n2 c2) (tK (lst 32 (hmac s z)) o i) E2) ∧ (n2 = (tK (lst 32 (hmac s z)) o i).length) ∧ (L.length = 32 * i) ∧ (i ≤ 255)) (fun i _ _ _ _ _ _ _ _ => 255 - i) 0 none 0 ([]) ([]) none 0 0 ([]) ⟨hH, (OwnT.nil _ _), rfl, (OwnT.nil _ _), rfl, rfl, (show 0 ≤ 255 by decide)⟩ ?_
  clear hH
  rintro i A1 c1 L E1 A2 n2 c2 E2 w ⟨hH, hO, hL, hP, hn2, hlen, hi⟩
  refine cxSeq ?_
  refine zr ?_
  refine zv .mv 0 ?_
  refine zv .len 1 ?_
  refine zv .mv 0 ?_
  refine zv (.lt (L.length < m)) 3 ?_
  refine zn ?_
  refine zP (fun hc2 => ?_) (fun hc2 => ?_)
  refine cxSkip ?_
  refine qxThen ?_
  refine cxSeq ?_
  refine cxBlock ?_
  have htl := tK_le (lst 32 (hmac s z)) o i
  refine zx ?_
  replace hH := hH.drew
  refine rv 0 (v := (.slice (some ⟨g1, 0, none⟩) 32 32)) (fun _ _ hF => opSliceA (n := 32) (e := 5) (sz := 1) rfl (by kernel_rfl) (by kernel_rfl) (hF.ev 4 rfl)) 1 ?_
  refine rv 1 .mv 4 ?_
  refine rv 2 .mv 0 ?_
  refine rv 3 .mv 0 ?_
  refine rv 4 .cb 1 ?_
  refine rx2 5 9 (by kernel_rfl) ?_ ?_
  refine rm 5 hH (fun _ hF => smLit1 (e := 5) (sz := 1) (z := (.int .u8 0)) (by_ := 1) (cs := cByte.enc (UInt8.ofNat (i + 1))) rfl (by kernel_rfl) (by kernel_rfl) (hF.ev 0 rfl) (cByte.len (UInt8.ofNat (i + 1))) (ltb rfl) (leb rfl) rfl) trivial 1 (.nil _ []) ?_
  clear hH
  rintro _ _ w ⟨g3, rfl, rfl⟩ hH
  refine ⟨pnil, ?_⟩
  refine rx2 6 9 (by kernel_rfl) ?_ ?_
  refine rm 6 hH (fun _ hF => smLits (C := cSl) (e := 23) (z := (.slice none 0 0)) (by_ := 24) [(A2, n2, c2), (D, j, e), ((some ⟨g3, 0, none⟩), 1, 1)] rfl (by kernel_rfl) (by kernel_rfl) (EvP.cons (v := cSl.val (A2, n2, c2)) (hF.ev 2 rfl) (EvP.cons (v := cSl.val (D, j, e)) (hF.ev 1 rfl) (EvP.cons (v := cSl.val ((some ⟨g3, 0, none⟩), 1, 1)) (hF.ev 0 rfl) EvP.nil))) rfl (ltb rfl) (leb rfl) rfl) trivial 7 (.nil _ []) ?_
  clear hH
  rintro _ _ w ⟨g4, rfl, rfl⟩ hH
  refine ⟨pnil, ?_⟩
  refine rx2 7 9 (by kernel_rfl) ?_ ?_
  refine rm 7 hH (.call Tryz.func18 ((rjoin3 (some ⟨g4, 0, none⟩) 3 [(A2, n2, c2), (D, j, e), ((some ⟨g3, 0, none⟩), 1, 1)] (tK (lst 32 (hmac s z)) o i) o ([(UInt8.ofNat (i + 1))]) (by simp only [List.length_cons, List.length_nil]; omega)))) (⟨((Bk.lits (C := cSl) [(A2, n2, c2), (D, j, e), ((some ⟨g3, 0, none⟩), 1, 1)] (by show 3 ≤ _; unfold maxLen; decide)).vu (n := 3) (hH.blk 4 rfl) rfl), (.cons (hP.vuAt (hH.has 2 rfl)) (.cons (hH.vu hR.2.2 (by decide) (Off.nil _ _)) (.cons ((Bk.lit1 (C := cByte) (UInt8.ofNat (i + 1))).vu (n := 1) (hH.blk 3 rfl) rfl) ViewsL.nil)))⟩) 1 (.nil _ []) ?_
  clear hH
  rintro v9 E5 w hO6 hH
  obtain ⟨A7, c8, rfl⟩ := hO6.slice
  refine ⟨pnil, ?_⟩
  refine rx2 8 9 (by kernel_rfl) ?_ ?_
  refine rpc 8 Tryz.func48 (rmac_c (some ⟨g1, 0, none⟩) 32 32 (lst 32 (hmac s z)) (by first | decide | omega) A7 (((tK (lst 32 (hmac s z)) o i) ++ (o ++ [(UInt8.ofNat (i + 1))])).length) c8 ((tK (lst 32 (hmac s z)) o i) ++ (o ++ [(UInt8.ofNat (i + 1))])) (by simp only [List.length_append, List.length_cons, List.length_nil]; omega)) (⟨(vu_arr (hH.blk 0 rfl)), (hO6.vuAt (hH.has 5 rfl))⟩) hH 3 (.nil _ []) ?_
  clear hH
  intro w hH
  refine ⟨pnil, ?_⟩
  refine rx1k 9 ?_
  refine rm 9 hH (.al (cArr 32) (fun _ => 0)) trivial 0 (.nil _ []) ?_
  clear hH
  rintro _ _ w ⟨g11, rfl, rfl⟩ hH
  refine ⟨pnil, ?_⟩
  refine rx1k 10 ?_
  refine re0 10 6 hH rfl (.sw (cArr 32) (fun _ => 0) (hmac (lst 32 (hmac s z)) ((tK (lst 32 (hmac s z)) o i) ++ (o ++ [(UInt8.ofNat (i + 1))])))) trivial (.nil _ []) ?_
  clear hH
  rintro _ _ w rfl hH
  refine ⟨pnil, ?_⟩
  refine rn ?_
  refine zr ?_
  refine zv (v := (.slice (some ⟨g11, 0, none⟩) 32 32)) (fun _ _ hF => opSliceA (n := 32) (e := 5) (sz := 1) rfl (by kernel_rfl) (by kernel_rfl) (hF.ev 0 rfl)) 3 ?_
  refine zv .mv 1 ?_
  refine zn ?_
  refine cxReg ?_
  refine zv .mv 4 ?_
  refine zv .mv 0 ?_
  refine ze 1 hH rfl (fun _ hF => smAppT (C := cByte) (l := L) (m := (lst 32 (hmac (lst 32 (hmac s z)) ((tK (lst 32 (hmac s z)) o i) ++ (o ++ [(UInt8.ofNat (i + 1))]))))) (e := 5) (z := (.int .u8 0)) (by_ := 1) rfl (by kernel_rfl) (by kernel_rfl) rfl (ltb rfl) (hF.ev 1 rfl) hO (hF.ev 0 rfl) (lst_len _ _) (fun h => by cases h) (by unfold maxLen; omega) (by omega)) (vu_arr (hH.blk 6 rfl)) 3 ?_
  clear hH
  rintro v14 E15 w ⟨hO16, _⟩ hH
  replace hO16 : OwnT cByte 5 v14 (L ++ (lst 32 (hmac (lst 32 (hmac s z)) ((tK (lst 32 (hmac s z)) o i) ++ (o ++ [(UInt8.ofNat (i + 1))]))))) E15 := hO16
  obtain ⟨A12, c13, rfl⟩ := hO16.slice
  refine zv .mv 1 ?_
  refine pxEnd ?_
  refine qxInN ?_
  refine qxThen ?_
  refine cxReg ?_
  refine zv .mv 4 ?_
  refine zv (.add (((i + 1) + 1 : Nat) : Int)) 1 ?_
  refine zv .mv 1 ?_
  refine pxEnd ?_
  replace hH : HH w0 [] [[bl g1 22 ((cArr 32).enc (hmac s z))], E15, [bl g11 22 ((cArr 32).enc (hmac (lst 32 (hmac s z)) ((tK (lst 32 (hmac s z)) o i) ++ (o ++ [(UInt8.ofNat (i + 1))]))))]] w := hH.only [true, true, false, false, false, false, true]
  exact zR9 (i + 1) A12 c13 (L ++ (lst 32 (hmac (lst 32 (hmac s z)) ((tK (lst 32 (hmac s z)) o i) ++ (o ++ [(UInt8.ofNat (i + 1))]))))) E15 (some ⟨g11, 0, none⟩) 32 32 ([bl g11 22 ((cArr 32).enc (hmac (lst 32 (hmac s z)) ((tK (lst 32 (hmac s z)) o i) ++ (o ++ [(UInt8.ofNat (i + 1))]))))]) ⟨hH, hO16, (by rw [hL]; rfl), (lst_enc g11 22 (hmac (lst 32 (hmac s z)) ((tK (lst 32 (hmac s z)) o i) ++ (o ++ [(UInt8.ofNat (i + 1))])))), (tK_len _ _ _).symm, (by rw [List.length_append, lst_len]; omega), (by omega)⟩ (by omega)
  refine rm 9 hH (.al (cArr 32) (fun _ => 0)) trivial 0 (.nil _ []) ?_
  clear hH
  rintro _ _ w ⟨g17, rfl, rfl⟩ hH
  refine ⟨pnil, ?_⟩
  refine rx1k 8 (rpc 8 Tryz.func48 (rmac_c (some ⟨g1, 0, none⟩) 32 32 (lst 32 (hmac s z)) (by first | decide | omega) A7 (((tK (lst 32 (hmac s z)) o i) ++ (o ++ [(UInt8.ofNat (i + 1))])).length) c8 ((tK (lst 32 (hmac s z)) o i) ++ (o ++ [(UInt8.ofNat (i + 1))])) (by simp only [List.length_append, List.length_cons, List.length_nil]; omega)) (⟨(vu_arr (hH.blk 0 rfl)), (hO6.vuAt (hH.has 5 rfl))⟩) hH 6 (.nil _ []) ?_)
  clear hH
  intro w hH
  refine ⟨pnil, ?_⟩
  refine rx1k 10 ?_
  refine re0 10 6 hH rfl (.sw (cArr 32) (fun _ => 0) (hmac (lst 32 (hmac s z)) ((tK (lst 32 (hmac s z)) o i) ++ (o ++ [(UInt8.ofNat (i + 1))])))) trivial (.nil _ []) ?_
  clear hH
  rintro _ _ w rfl hH
  refine ⟨pnil, ?_⟩
  refine rn ?_
  refine zr ?_
  refine zv (v := (.slice (some ⟨g17, 0, none⟩) 32 32)) (fun _ _ hF => opSliceA (n := 32) (e := 5) (sz := 1) rfl (by kernel_rfl) (by kernel_rfl) (hF.ev 1 rfl)) 3 ?_
  refine zv .mv 1 ?_
  refine zn ?_
  refine cxReg ?_
  refine zv .mv 4 ?_
  refine zv .mv 0 ?_
  refine ze 1 hH rfl (fun _ hF => smAppT (C := cByte) (l := L) (m := (lst 32 (hmac (lst 32 (hmac s z)) ((tK (lst 32 (hmac s z)) o i) ++ (o ++ [(UInt8.ofNat (i + 1))]))))) (e := 5) (z := (.int .u8 0)) (by_ := 1) rfl (by kernel_rfl) (by kernel_rfl) rfl (ltb rfl) (hF.ev 1 rfl) hO (hF.ev 0 rfl) (lst_len _ _) (fun h => by cases h) (by unfold maxLen; omega) (by omega)) (vu_arr (hH.blk 6 rfl)) 3 ?_
  clear hH
  rintro v20 E21 w ⟨hO22, _⟩ hH
  replace hO22 : OwnT cByte 5 v20 (L ++ (lst 32 (hmac (lst 32 (hmac s z)) ((tK (lst 32 (hmac s z)) o i) ++ (o ++ [(UInt8.ofNat (i + 1))]))))) E21 := hO22
  obtain ⟨A18, c19, rfl⟩ := hO22.slice
  refine zv .mv 1 ?_
  refine pxEnd ?_
  refine qxInN ?_
  refine qxThen ?_
  refine cxReg ?_
  refine zv .mv 4 ?_
  refine zv (.add (((i + 1) + 1 : Nat) : Int)) 1 ?_
  refine zv .mv 1 ?_
  refine pxEnd ?_
  replace hH : HH w0 [] [[bl g1 22 ((cArr 32).enc (hmac s z))], E21, [bl g17 22 ((cArr 32).enc (hmac (lst 32 (hmac s z)) ((tK (lst 32 (hmac s z)) o i) ++ (o ++ [(UInt8.ofNat (i + 1))]))))]] w := hH.only [true, true, false, false, false, false, true]
  exact zR9 (i + 1) A18 c19 (L ++ (lst 32 (hmac (lst 32 (hmac s z)) ((tK (lst 32 (hmac s z)) o i) ++ (o ++ [(UInt8.ofNat (i + 1))]))))) E21 (some ⟨g17, 0, none⟩) 32 32 ([bl g17 22 ((cArr 32).enc (hmac (lst 32 (hmac s z)) ((tK (lst 32 (hmac s z)) o i) ++ (o ++ [(UInt8.ofNat (i + 1))]))))]) ⟨hH, hO22, (by rw [hL]; rfl), (lst_enc g17 22 (hmac (lst 32 (hmac s z)) ((tK (lst 32 (hmac s z)) o i) ++ (o ++ [(UInt8.ofNat (i + 1))])))), (tK_len _ _ _).symm, (by rw [List.length_append, lst_len]; omega), (by omega)⟩ (by omega)
  refine rm 9 hH (.al (cArr 32) (fun _ => 0)) trivial 0 (.nil _ []) ?_
  clear hH
  rintro _ _ w ⟨g23, rfl, rfl⟩ hH
  refine ⟨pnil, ?_⟩
  refine rx1k 7 ?_
  refine rm 7 hH (.call Tryz.func18 ((rjoin3 (some ⟨g4, 0, none⟩) 3 [(A2, n2, c2), (D, j, e), ((some ⟨g3, 0, none⟩), 1, 1)] (tK (lst 32 (hmac s z)) o i) o ([(UInt8.ofNat (i + 1))]) (by simp only [List.length_cons, List.length_nil]; omega)))) (⟨((Bk.lits (C := cSl) [(A2, n2, c2), (D, j, e), ((some ⟨g3, 0, none⟩), 1, 1)] (by show 3 ≤ _; unfold maxLen; decide)).vu (n := 3) (hH.blk 4 rfl) rfl), (.cons (hP.vuAt (hH.has 2 rfl)) (.cons (hH.vu hR.2.2 (by decide) (Off.nil _ _)) (.cons ((Bk.lit1 (C := cByte) (UInt8.ofNat (i + 1))).vu (n := 1) (hH.blk 3 rfl) rfl) ViewsL.nil)))⟩) 2 (.nil _ []) ?_
  clear hH
  rintro v28 E24 w hO25 hH
  obtain ⟨A26, c27, rfl⟩ := hO25.slice
  refine ⟨pnil, ?_⟩
  refine rx1k 8 (rpc 8 Tryz.func48 (rmac_c (some ⟨g1, 0, none⟩) 32 32 (lst 32 (hmac s z)) (by first | decide | omega) A26 (((tK (lst 32 (hmac s z)) o i) ++ (o ++ [(UInt8.ofNat (i + 1))])).length) c27 ((tK (lst 32 (hmac s z)) o i) ++ (o ++ [(UInt8.ofNat (i + 1))])) (by simp only [List.length_append, List.length_cons, List.length_nil]; omega)) (⟨(vu_arr (hH.blk 0 rfl)), (hO25.vuAt (hH.has 6 rfl))⟩) hH 5 (.nil _ []) ?_)
  clear hH
  intro w hH
  refine ⟨pnil, ?_⟩
  refine rx1k 10 ?_
  refine re0 10 5 hH rfl (.sw (cArr 32) (fun _ => 0) (hmac (lst 32 (hmac s z)) ((tK (lst 32 (hmac s z)) o i) ++ (o ++ [(UInt8.ofNat (i + 1))])))) trivial (.nil _ []) ?_
  clear hH
  rintro _ _ w rfl hH
  refine ⟨pnil, ?_⟩
  refine rn ?_
  refine zr ?_
  refine zv (v := (.slice (some ⟨g23, 0, none⟩) 32 32)) (fun _ _ hF => opSliceA (n := 32) (e := 5) (sz := 1) rfl (by kernel_rfl) (by kernel_rfl) (hF.ev 1 rfl)) 3 ?_
  refine zv .mv 1 ?_
  refine zn ?_
  refine cxReg ?_
  refine zv .mv 4 ?_
  refine zv .mv 0 ?_
  refine ze 1 hH rfl (fun _ hF => smAppT (C := cByte) (l := L) (m := (lst 32 (hmac (lst 32 (hmac s z)) ((tK (lst 32 (hmac s z)) o i) ++ (o ++ [(UInt8.ofNat (i + 1))]))))) (e := 5) (z := (.int .u8 0)) (by_ := 1) rfl (by kernel_rfl) (by kernel_rfl) rfl (ltb rfl) (hF.ev 1 rfl) hO (hF.ev 0 rfl) (lst_len _ _) (fun h => by cases h) (by unfold maxLen; omega) (by omega)) (vu_arr (hH.blk 5 rfl)) 3 ?_
  clear hH
  rintro v32 E33 w ⟨hO34, _⟩ hH
  replace hO34 : OwnT cByte 5 v32 (L ++ (lst 32 (hmac (lst 32 (hmac s z)) ((tK (lst 32 (hmac s z)) o i) ++ (o ++ [(UInt8.ofNat (i + 1))]))))) E33 := hO34
  obtain ⟨A30, c31, rfl⟩ := hO34.slice
  refine zv .mv 1 ?_
  refine pxEnd ?_
  refine qxInN ?_
  refine qxThen ?_
  refine cxReg ?_
  refine zv .mv 4 ?_
  refine zv (.add (((i + 1) + 1 : Nat) : Int)) 1 ?_
  refine zv .mv 1 ?_
  refine pxEnd ?_
  replace hH : HH w0 [] [[bl g1 22 ((cArr 32).enc (hmac s z))], E33, [bl g23 22 ((cArr 32).enc (hmac (lst 32 (hmac s z)) ((tK (lst 32 (hmac s z)) o i) ++ (o ++ [(UInt8.ofNat (i + 1))]))))]] w := hH.only [true, true, false, false, false, true, false]
  exact zR9 (i + 1) A30 c31 (L ++ (lst 32 (hmac (lst 32 (hmac s z)) ((tK (lst 32 (hmac s z)) o i) ++ (o ++ [(UInt8.ofNat (i + 1))]))))) E33 (some ⟨g23, 0, none⟩) 32 32 ([bl g23 22 ((cArr 32).enc (hmac (lst 32 (hmac s z)) ((tK (lst 32 (hmac s z)) o i) ++ (o ++ [(UInt8.ofNat (i + 1))]))))]) ⟨hH, hO34, (by rw [hL]; rfl), (lst_enc g23 22 (hmac (lst 32 (hmac s z)) ((tK (lst 32 (hmac s z)) o i) ++ (o ++ [(UInt8.ofNat (i + 1))])))), (tK_len _ _ _).symm, (by rw [List.length_append, lst_len]; omega), (by omega)⟩ (by omega)
  refine rm 9 hH (.al (cArr 32) (fun _ => 0)) trivial 0 (.nil _ []) ?_
  clear hH
  rintro _ _ w ⟨g35, rfl, rfl⟩ hH
  refine ⟨pnil, ?_⟩
  refine rx1k 6 ?_
  refine rm 6 hH (fun _ hF => smLits (C := cSl) (e := 23) (z := (.slice none 0 0)) (by_ := 24) [(A2, n2, c2), (D, j, e), ((some ⟨g3, 0, none⟩), 1, 1)] rfl (by kernel_rfl) (by kernel_rfl) (EvP.cons (v := cSl.val (A2, n2, c2)) (hF.ev 3 rfl) (EvP.cons (v := cSl.val (D, j, e)) (hF.ev 2 rfl) (EvP.cons (v := cSl.val ((some ⟨g3, 0, none⟩), 1, 1)) (hF.ev 1 rfl) EvP.nil))) rfl (ltb rfl) (leb rfl) rfl) trivial 14 (.nil _ []) ?_
  clear hH
  rintro _ _ w ⟨g36, rfl, rfl⟩ hH
  refine ⟨pnil, ?_⟩
  refine rx1k 7 ?_
  refine rm 7 hH (.call Tryz.func18 ((rjoin3 (some ⟨g36, 0, none⟩) 3 [(A2, n2, c2), (D, j, e), ((some ⟨g3, 0, none⟩), 1, 1)] (tK (lst 32 (hmac s z)) o i) o ([(UInt8.ofNat (i + 1))]) (by simp only [List.length_cons, List.length_nil]; omega)))) (⟨((Bk.lits (C := cSl) [(A2, n2, c2), (D, j, e), ((some ⟨g3, 0, none⟩), 1, 1)] (by show 3 ≤ _; unfold maxLen; decide)).vu (n := 3) (hH.blk 5 rfl) rfl), (.cons (hP.vuAt (hH.has 2 rfl)) (.cons (hH.vu hR.2.2 (by decide) (Off.nil _ _)) (.cons ((Bk.lit1 (C := cByte) (UInt8.ofNat (i + 1))).vu (n := 1) (hH.blk 3 rfl) rfl) ViewsL.nil)))⟩) 1 (.nil _ []) ?_
  clear hH
  rintro v41 E37 w hO38 hH
  obtain ⟨A39, c40, rfl⟩ := hO38.slice
  refine ⟨pnil, ?_⟩
  refine rx1k 8 (rpc 8 Tryz.func48 (rmac_c (some ⟨g1, 0, none⟩) 32 32 (lst 32 (hmac s z)) (by first | decide | omega) A39 (((tK (lst 32 (hmac s z)) o i) ++ (o ++ [(UInt8.ofNat (i + 1))])).length) c40 ((tK (lst 32 (hmac s z)) o i) ++ (o ++ [(UInt8.ofNat (i + 1))])) (by simp only [List.length_append, List.length_cons, List.length_nil]; omega)) (⟨(vu_arr (hH.blk 0 rfl)), (hO38.vuAt (hH.has 6 rfl))⟩) hH 5 (.nil _ []) ?_)
  clear hH
  intro w hH
  refine ⟨pnil, ?_⟩
  refine rx1k 10 ?_
  refine re0 10 4 hH rfl (.sw (cArr 32) (fun _ => 0) (hmac (lst 32 (hmac s z)) ((tK (lst 32 (hmac s z)) o i) ++ (o ++ [(UInt8.ofNat (i + 1))])))) trivial (.nil _ []) ?_
  clear hH
  rintro _ _ w rfl hH
  refine ⟨pnil, ?_⟩
  refine rn ?_
  refine zr ?_
  refine zv (v := (.slice (some ⟨g35, 0, none⟩) 32 32)) (fun _ _ hF => opSliceA (n := 32) (e := 5) (sz := 1) rfl (by kernel_rfl) (by kernel_rfl) (hF.ev 1 rfl)) 3 ?_
  refine zv .mv 1 ?_
  refine zn ?_
  refine cxReg ?_
  refine zv .mv 4 ?_
  refine zv .mv 0 ?_
  refine ze 1 hH rfl (fun _ hF => smAppT (C := cByte) (l := L) (m := (lst 32 (hmac (lst 32 (hmac s z)) ((tK (lst 32 (hmac s z)) o i) ++ (o ++ [(UInt8.ofNat (i + 1))]))))) (e := 5) (z := (.int .u8 0)) (by_ := 1) rfl (by kernel_rfl) (by kernel_rfl) rfl (ltb rfl) (hF.ev 1 rfl) hO (hF.ev 0 rfl) (lst_len _ _) (fun h => by cases h) (by unfold maxLen; omega) (by omega)) (vu_arr (hH.blk 4 rfl)) 3 ?_
  clear hH
  rintro v45 E46 w ⟨hO47, _⟩ hH
  replace hO47 : OwnT cByte 5 v45 (L ++ (lst 32 (hmac (lst 32 (hmac s z)) ((tK (lst 32 (hmac s z)) o i) ++ (o ++ [(UInt8.ofNat (i + 1))]))))) E46 := hO47
  obtain ⟨A43, c44, rfl⟩ := hO47.slice
  refine zv .mv 1 ?_
  refine pxEnd ?_
  refine qxInN ?_
  refine qxThen ?_
  refine cxReg ?_
  refine zv .mv 4 ?_
  refine zv (.add (((i + 1) + 1 : Nat) : Int)) 1 ?_
  refine zv .mv 1 ?_
  refine pxEnd ?_
  replace hH : HH w0 [] [[bl g1 22 ((cArr 32).enc (hmac s z))], E46, [bl g35 22 ((cArr 32).enc (hmac (lst 32 (hmac s z)) ((tK (lst 32 (hmac s z)) o i) ++ (o ++ [(UInt8.ofNat (i + 1))]))))]] w := hH.only [true, true, false, false, true, false, false]
  exact zR9 (i + 1) A43 c44 (L ++ (lst 32 (hmac (lst 32 (hmac s z)) ((tK (lst 32 (hmac s z)) o i) ++ (o ++ [(UInt8.ofNat (i + 1))]))))) E46 (some ⟨g35, 0, none⟩) 32 32 ([bl g35 22 ((cArr 32).enc (hmac (lst 32 (hmac s z)) ((tK (lst 32 (hmac s z)) o i) ++ (o ++ [(UInt8.ofNat (i + 1))]))))]) ⟨hH, hO47, (by rw [hL]; rfl), (lst_enc g35 22 (hmac (lst 32 (hmac s z)) ((tK (lst 32 (hmac s z)) o i) ++ (o ++ [(UInt8.ofNat (i + 1))])))), (tK_len _ _ _).symm, (by rw [List.length_append, lst_len]; omega), (by omega)⟩ (by omega)
  refine rm 9 hH (.al (cArr 32) (fun _ => 0)) trivial 0 (.nil _ []) ?_
  clear hH
  rintro _ _ w ⟨g48, rfl, rfl⟩ hH
  refine ⟨pnil, ?_⟩
  refine rx1k 5 ?_
  refine rm 5 hH (fun _ hF => smLit1 (e := 5) (sz := 1) (z := (.int .u8 0)) (by_ := 1) (cs := cByte.enc (UInt8.ofNat (i + 1))) rfl (by kernel_rfl) (by kernel_rfl) (hF.ev 1 rfl) (cByte.len (UInt8.ofNat (i + 1))) (ltb rfl) (leb rfl) rfl) trivial 2 (.nil _ []) ?_
  clear hH
  rintro _ _ w ⟨g49, rfl, rfl⟩ hH
  refine ⟨pnil, ?_⟩
  refine rx1k 6 ?_
  refine rm 6 hH (fun _ hF => smLits (C := cSl) (e := 23) (z := (.slice none 0 0)) (by_ := 24) [(A2, n2, c2), (D, j, e), ((some ⟨g49, 0, none⟩), 1, 1)] rfl (by kernel_rfl) (by kernel_rfl) (EvP.cons (v := cSl.val (A2, n2, c2)) (hF.ev 3 rfl) (EvP.cons (v := cSl.val (D, j, e)) (hF.ev 2 rfl) (EvP.cons (v := cSl.val ((some ⟨g49, 0, none⟩), 1, 1)) (hF.ev 0 rfl) EvP.nil))) rfl (ltb rfl) (leb rfl) rfl) trivial 13 (.nil _ []) ?_
  clear hH
  rintro _ _ w ⟨g50, rfl, rfl⟩ hH
  refine ⟨pnil, ?_⟩
  refine rx1k 7 ?_
  refine rm 7 hH (.call Tryz.func18 ((rjoin3 (some ⟨g50, 0, none⟩) 3 [(A2, n2, c2), (D, j, e), ((some ⟨g49, 0, none⟩), 1, 1)] (tK (lst 32 (hmac s z)) o i) o ([(UInt8.ofNat (i + 1))]) (by simp only [List.length_cons, List.length_nil]; omega)))) (⟨((Bk.lits (C := cSl) [(A2, n2, c2), (D, j, e), ((some ⟨g49, 0, none⟩), 1, 1)] (by show 3 ≤ _; unfold maxLen; decide)).vu (n := 3) (hH.blk 5 rfl) rfl), (.cons (hP.vuAt (hH.has 2 rfl)) (.cons (hH.vu hR.2.2 (by decide) (Off.nil _ _)) (.cons ((Bk.lit1 (C := cByte) (UInt8.ofNat (i + 1))).vu (n := 1) (hH.blk 4 rfl) rfl) ViewsL.nil)))⟩) 1 (.nil _ []) ?_
  clear hH
  rintro v55 E51 w hO52 hH
  obtain ⟨A53, c54, rfl⟩ := hO52.slice
  refine ⟨pnil, ?_⟩
  refine rx1k 8 (rpc 8 Tryz.func48 (rmac_c (some ⟨g1, 0, none⟩) 32 32 (lst 32 (hmac s z)) (by first | decide | omega) A53 (((tK (lst 32 (hmac s z)) o i) ++ (o ++ [(UInt8.ofNat (i + 1))])).length) c54 ((tK (lst 32 (hmac s z)) o i) ++ (o ++ [(UInt8.ofNat (i + 1))])) (by simp only [List.length_append, List.length_cons, List.length_nil]; omega)) (⟨(vu_arr (hH.blk 0 rfl)), (hO52.vuAt (hH.has 6 rfl))⟩) hH 5 (.nil _ []) ?_)
  clear hH
  intro w hH
  refine ⟨pnil, ?_⟩
  refine rx1k 10 ?_
  refine re0 10 3 hH rfl (.sw (cArr 32) (fun _ => 0) (hmac (lst 32 (hmac s z)) ((tK (lst 32 (hmac s z)) o i) ++ (o ++ [(UInt8.ofNat (i + 1))])))) trivial (.nil _ []) ?_
  clear hH
  rintro _ _ w rfl hH
  refine ⟨pnil, ?_⟩
  refine rn ?_
  refine zr ?_
  refine zv (v := (.slice (some ⟨g48, 0, none⟩) 32 32)) (fun _ _ hF => opSliceA (n := 32) (e := 5) (sz := 1) rfl (by kernel_rfl) (by kernel_rfl) (hF.ev 1 rfl)) 3 ?_
  refine zv .mv 1 ?_
  refine zn ?_
  refine cxReg ?_
  refine zv .mv 4 ?_
  refine zv .mv 0 ?_
  refine ze 1 hH rfl (fun _ hF => smAppT (C := cByte) (l := L) (m := (lst 32 (hmac (lst 32 (hmac s z)) ((tK (lst 32 (hmac s z)) o i) ++ (o ++ [(UInt8.ofNat (i + 1))]))))) (e := 5) (z := (.int .u8 0)) (by_ := 1) rfl (by kernel_rfl) (by kernel_rfl) rfl (ltb rfl) (hF.ev 1 rfl) hO (hF.ev 0 rfl) (lst_len _ _) (fun h => by cases h) (by unfold maxLen; omega) (by omega)) (vu_arr (hH.blk 3 rfl)) 3 ?_
  clear hH
  rintro v59 E60 w ⟨hO61, _⟩ hH
  replace hO61 : OwnT cByte 5 v59 (L ++ (lst 32 (hmac (lst 32 (hmac s z)) ((tK (lst 32 (hmac s z)) o i) ++ (o ++ [(UInt8.ofNat (i + 1))]))))) E60 := hO61
  obtain ⟨A57, c58, rfl⟩ := hO61.slice
  refine zv .mv 1 ?_
  refine pxEnd ?_
  refine qxInN ?_
  refine qxThen ?_
  refine cxReg ?_
  refine zv .mv 4 ?_
  refine zv (.add (((i + 1) + 1 : Nat) : Int)) 1 ?_
  refine zv .mv 1 ?_
  refine pxEnd ?_
  replace hH : HH w0 [] [[bl g1 22 ((cArr 32).enc (hmac s z))], E60, [bl g48 22 ((cArr 32).enc (hmac (lst 32 (hmac s z)) ((tK (lst 32 (hmac s z)) o i) ++ (o ++ [(UInt8.ofNat (i + 1))]))))]] w := hH.only [true, true, false, true, false, false, false]
  exact zR9 (i + 1) A57 c58 (L ++ (lst 32 (hmac (lst 32 (hmac s z)) ((tK (lst 32 (hmac s z)) o i) ++ (o ++ [(UInt8.ofNat (i + 1))]))))) E60 (some ⟨g48, 0, none⟩) 32 32 ([bl g48 22 ((cArr 32).enc (hmac (lst 32 (hmac s z)) ((tK (lst 32 (hmac s z)) o i) ++ (o ++ [(UInt8.ofNat (i + 1))]))))]) ⟨hH, hO61, (by rw [hL]; rfl), (lst_enc g48 22 (hmac (lst 32 (hmac s z)) ((tK (lst 32 (hmac s z)) o i) ++ (o ++ [(UInt8.ofNat (i + 1))])))), (tK_len _ _ _).symm, (by rw [List.length_append, lst_len]; omega), (by omega)⟩ (by omega)
  refine cxExit ?_
  refine qxThenE ?_
  refine qxThenE ?_
  refine qxInE ?_
  refine qxThen ?_
  have hcl := hO.capLe
  refine zr ?_
  refine zv .mv 95 ?_
  refine zv .mv 2 ?_
  refine zv (v := (.slice A1 m c1)) (fun _ _ hF => opCutH (h := m) (e := 5) (sz := 1) rfl (by kernel_rfl) (by kernel_rfl) (hF.ev 1 rfl) (hF.ev 0 rfl) rfl (by omega)) 3 ?_
  refine zv .mv 1 ?_
  refine zn ?_
  refine cxRet ?_
  refine qxRet1 0 rfl rfl ?_
  have hOk := hO.head (m := m) (by omega)
  rw [hL, ← okm_of s z o hi (by omega)] at hOk
  exact ⟨_, _, rfl, hOk, hH.out1 [false, true, false] rfl⟩
end Go.Proofs.YtfloiekaiiapnaaGreatDoor

namespace Go.Proofs.YtfloiekaiiapnaaGreatDoor

/-! ### The keys of the rounds: there are some -/
def ks (s : Nat → UInt8) (nk : Nat) (key : Nat → UInt8) : Nat → Nat → UInt8
  | 0 => key
  | m + 1 => fun j => if j < 4 * (nk + m) then ks s nk key m j else xr (ks s nk key m (j - 4 * nk)) (tw s nk (ks s nk key m) (nk + m) (j - 4 * (nk + m)))
theorem ks_step (s : Nat → UInt8) (nk : Nat) (key : Nat → UInt8) (m j : Nat) (h : j < 4 * (nk + m)) : ks s nk key (m + 1) j = ks s nk key m j := by
  show (if j < 4 * (nk + m) then _ else _) = _
  rw [if_pos h]
theorem ks_stays (s : Nat → UInt8) (nk : Nat) (key : Nat → UInt8) (m j : Nat) (h : j < 4 * (nk + m)) : ∀ t, ks s nk key (m + t) j = ks s nk key m j
  | 0 => rfl
  | t + 1 => by rw [show m + (t + 1) = (m + t) + 1 from rfl, ks_step s nk key (m + t) j (by omega), ks_stays s nk key m j h t]
theorem tw_congr {s W W' : Nat → UInt8} {nk i k : Nat} (hi : 0 < i) (hk : k < 4) (h : ∀ j, j < 4 * i → W j = W' j) : tw s nk W i k = tw s nk W' i k := by
  unfold tw
  rw [h (4 * (i - 1) + 1) (by omega), h (4 * (i - 1) + (k + 1) % 4) (by omega), h (4 * (i - 1) + k) (by omega)]
theorem ks_sched (s : Nat → UInt8) (nk : Nat) (key : Nat → UInt8) (hn : 0 < nk) : Sched s nk key (ks s nk key (3 * nk + 28)) := by
  refine ⟨fun j hj => ?_, fun i k h1 h2 hk => ?_⟩
  · have := ks_stays s nk key 0 j (by omega) (3 * nk + 28)
    rw [Nat.zero_add] at this
    exact this
  · obtain ⟨m, rfl⟩ : ∃ m, i = nk + m := ⟨i - nk, by omega⟩
    have e1 := ks_stays s nk key (m + 1) (4 * (nk + m) + k) (by omega) (3 * nk + 28 - (m + 1))
    rw [show m + 1 + (3 * nk + 28 - (m + 1)) = 3 * nk + 28 by omega] at e1
    have e2 : ∀ j, j < 4 * (nk + m) → ks s nk key (3 * nk + 28) j = ks s nk key m j := fun j hj => by
      have := ks_stays s nk key m j hj (3 * nk + 28 - m)
      rwa [show m + (3 * nk + 28 - m) = 3 * nk + 28 by omega] at this
    rw [e1, tw_congr (by omega) hk e2, e2 (4 * (nk + m - nk) + k) (by omega)]
    show (if 4 * (nk + m) + k < 4 * (nk + m) then _ else _) = _
    rw [if_neg (by omega), show 4 * (nk + m) + k - 4 * nk = 4 * (nk + m - nk) + k by omega, show 4 * (nk + m) + k - 4 * (nk + m) = k by omega]
/-! ### Sixteen bytes alike -/
def E16 (f g : Nat → UInt8) : Prop := ∀ i, i < 16 → f i = g i
theorem E16.refl (f : Nat → UInt8) : E16 f f := fun _ _ => rfl
theorem E16.trans {f g k : Nat → UInt8} (h : E16 f g) (h' : E16 g k) : E16 f k := fun i hi => (h i hi).trans (h' i hi)
theorem E16.added {f g k k' : Nat → UInt8} (h : E16 f g) (h' : E16 k k') : E16 (added f k) (added g k') := fun i hi => by
  show xr (f i) (k i) = xr (g i) (k' i)
  rw [h i hi, h' i hi]
theorem E16.boxed {f g : Nat → UInt8} (s : Nat → UInt8) (h : E16 f g) : E16 (boxed s f) (boxed s g) := fun i hi => by
  show s (f i).toNat = s (g i).toNat
  rw [h i hi]
theorem E16.shifted {f g : Nat → UInt8} (h : E16 f g) : E16 (shifted f) (shifted g) := fun i _ => h _ (by omega)
theorem E16.unshifted {f g : Nat → UInt8} (h : E16 f g) : E16 (unshifted f) (unshifted g) := fun i _ => h _ (by omega)
theorem E16.mixed {f g : Nat → UInt8} (h : E16 f g) : E16 (mixed f) (mixed g) := fun i hi => by
  unfold Go.Proofs.YtfloiekaiiapnaaGreatDoor.mixed
  rw [h i hi, h (i - i % 4) (by omega), h (i - i % 4 + 1) (by omega), h (i - i % 4 + 2) (by omega), h (i - i % 4 + 3) (by omega), h (i - i % 4 + (i + 1) % 4) (by omega)]
theorem E16.premixed {f g : Nat → UInt8} (h : E16 f g) : E16 (premixed f) (premixed g) := fun i hi => by
  unfold Go.Proofs.YtfloiekaiiapnaaGreatDoor.premixed
  rw [h i hi, h (i - i % 4 + (i + 2) % 4) (by omega)]
theorem E16.unmixed {f g : Nat → UInt8} (h : E16 f g) : E16 (unmixed f) (unmixed g) := h.premixed.mixed

theorem xr_cancel (x y : UInt8) : x ^^^ (x ^^^ y) = y := by rw [← UInt8.xor_assoc, UInt8.xor_self, UInt8.zero_xor]
theorem xor_left (a b c : UInt8) : a ^^^ (b ^^^ c) = b ^^^ (a ^^^ c) := by rw [← UInt8.xor_assoc, UInt8.xor_comm a b, UInt8.xor_assoc]
theorem added_added (b k : Nat → UInt8) : added (added b k) k = b := by
  funext i
  show (b i ^^^ k i) ^^^ k i = b i
  rw [UInt8.xor_assoc, UInt8.xor_self, UInt8.xor_zero]
theorem bit7 (x : UInt8) : x >>> 7 = 0 ∨ x >>> 7 = 1 := by
  have h : (x >>> 7).toNat = x.toNat / 128 := by
    rw [UInt8.toNat_shiftRight]
    simp [Nat.shiftRight_eq_div_pow]
  have h2 := x.toNat_lt
  rcases (by omega : x.toNat / 128 = 0 ∨ x.toNat / 128 = 1) with h3 | h3
  · left; apply UInt8.toNat_inj.1; rw [h, h3]; rfl
  · right; apply UInt8.toNat_inj.1; rw [h, h3]; rfl
theorem dbl_xor (x y : UInt8) : dbl (x ^^^ y) = dbl x ^^^ dbl y := by
  unfold dbl
  rw [UInt8.shiftLeft_xor, UInt8.shiftRight_xor]
  have h : (x >>> 7 ^^^ y >>> 7) * (0x1b : UInt8) = (x >>> 7) * (0x1b : UInt8) ^^^ (y >>> 7) * (0x1b : UInt8) := by
    rcases bit7 x with h | h <;> rcases bit7 y with h' | h' <;> rw [h, h'] <;> decide
  rw [h]
  generalize x <<< 1 = a
  generalize y <<< 1 = b
  generalize (x >>> 7) * 0x1b = c
  generalize (y >>> 7) * 0x1b = d
  rw [UInt8.xor_assoc, UInt8.xor_assoc, ← UInt8.xor_assoc b, UInt8.xor_comm b c, UInt8.xor_assoc]
theorem mixed_at (b : Nat → UInt8) (c r : Nat) (hr : r < 4) :
    mixed b (4 * c + r) = (b (4 * c + r) ^^^ (b (4 * c) ^^^ b (4 * c + 1) ^^^ b (4 * c + 2) ^^^ b (4 * c + 3))) ^^^ dbl (b (4 * c + r) ^^^ b (4 * c + (r + 1) % 4)) := by
  unfold mixed xr
  rw [show 4 * c + r - (4 * c + r) % 4 = 4 * c by omega, show (4 * c + r + 1) % 4 = (r + 1) % 4 by omega]
theorem premixed_at (b : Nat → UInt8) (c r : Nat) (hr : r < 4) :
    premixed b (4 * c + r) = b (4 * c + r) ^^^ dbl (dbl (b (4 * c + r) ^^^ b (4 * c + (r + 2) % 4))) := by
  unfold premixed xr
  rw [show 4 * c + r - (4 * c + r) % 4 = 4 * c by omega, show (4 * c + r + 2) % 4 = (r + 2) % 4 by omega]
theorem mixed_mixed (b : Nat → UInt8) : mixed (mixed b) = premixed b := by
  funext i
  obtain ⟨c, r, hr, rfl⟩ : ∃ c r, r < 4 ∧ i = 4 * c + r := ⟨i / 4, i % 4, by omega, by omega⟩
  rw [mixed_at _ c r hr, premixed_at _ c r hr]
  have e0 := mixed_at b c 0 (by omega)
  have e1 := mixed_at b c 1 (by omega)
  have e2 := mixed_at b c 2 (by omega)
  have e3 := mixed_at b c 3 (by omega)
  simp only [Nat.add_zero, Nat.reduceAdd, Nat.reduceMod] at e0 e1 e2 e3
  rcases (by omega : r = 0 ∨ r = 1 ∨ r = 2 ∨ r = 3) with rfl | rfl | rfl | rfl <;>
    (simp only [Nat.add_zero, Nat.reduceAdd, Nat.reduceMod, e0, e1, e2, e3, dbl_xor]
     generalize b (4 * c) = x0
     generalize b (4 * c + 1) = x1
     generalize b (4 * c + 2) = x2
     generalize b (4 * c + 3) = x3
     simp only [UInt8.xor_assoc, UInt8.xor_comm, xor_left, xr_cancel, UInt8.xor_self, UInt8.xor_zero, UInt8.zero_xor])
theorem premixed_premixed (b : Nat → UInt8) : premixed (premixed b) = b := by
  funext i
  obtain ⟨c, r, hr, rfl⟩ : ∃ c r, r < 4 ∧ i = 4 * c + r := ⟨i / 4, i % 4, by omega, by omega⟩
  rw [premixed_at _ c r hr, premixed_at b c r hr, premixed_at b c ((r + 2) % 4) (by omega), show ((r + 2) % 4 + 2) % 4 = r by omega]
  generalize b (4 * c + r) = x
  generalize b (4 * c + (r + 2) % 4) = y
  simp only [dbl_xor]
  simp only [UInt8.xor_comm, xor_left, UInt8.xor_self, UInt8.xor_zero, UInt8.zero_xor]
theorem unmixed_mixed (b : Nat → UInt8) : unmixed (mixed b) = b := by
  unfold unmixed
  rw [← mixed_mixed (mixed b), mixed_mixed b, mixed_mixed, premixed_premixed]
theorem unshifted_shifted (b : Nat → UInt8) : E16 (unshifted (shifted b)) b := fun i hi => by
  show b (((i + i % 4 * 12) % 16 + (i + i % 4 * 12) % 16 % 4 * 4) % 16) = b i
  rw [show ((i + i % 4 * 12) % 16 + (i + i % 4 * 12) % 16 % 4 * 4) % 16 = i by omega]
/-- Two boxes that undo one another. -/
def Undo (s back : Nat → UInt8) : Prop := ∀ x : UInt8, back (s x.toNat).toNat = x
theorem boxed_undo {s back : Nat → UInt8} (h : Undo s back) (b : Nat → UInt8) : boxed back (boxed s b) = b := by
  funext i
  exact h (b i)

theorem decR_enc {s back : Nat → UInt8} (h : Undo s back) (r : Nat) (_ : 0 < r) (W b : Nat → UInt8) : ∀ m, m < r → E16 (decR back r W (enc s r W b) m) (encR s W b (r - 1 - m)) := by
  intro m
  induction m with
  | zero =>
    intro _
    show E16 (boxed back (unshifted (added (added (shifted (boxed s (encR s W b (r - 1)))) (rk W r)) (rk W r)))) _
    rw [added_added]
    have := (unshifted_shifted (boxed s (encR s W b (r - 1)))).boxed back
    rw [boxed_undo h] at this
    exact this
  | succ m ih =>
    intro hm
    have h1 := ih (by omega)
    obtain ⟨t, ht⟩ : ∃ t, r - 1 - m = t + 1 := ⟨r - 2 - m, by omega⟩
    rw [ht] at h1
    show E16 (boxed back (unshifted (unmixed (added (decR back r W (enc s r W b) m) (rk W (r - 1 - m)))))) (encR s W b (r - 1 - (m + 1)))
    rw [show r - 1 - (m + 1) = t by omega, ht]
    have h2 : E16 (added (decR back r W (enc s r W b) m) (rk W (t + 1))) (mixed (shifted (boxed s (encR s W b t)))) := by
      have := h1.added (E16.refl (rk W (t + 1)))
      have e : encR s W b (t + 1) = added (mixed (shifted (boxed s (encR s W b t)))) (rk W (t + 1)) := rfl
      rw [e, added_added] at this
      exact this
    have h3 := h2.unmixed
    rw [unmixed_mixed] at h3
    have h4 := (h3.unshifted.trans (unshifted_shifted _)).boxed back
    rw [boxed_undo h] at h4
    exact h4
theorem dec_enc {s back : Nat → UInt8} (h : Undo s back) (r : Nat) (hr : 0 < r) (W b : Nat → UInt8) : E16 (dec back r W (enc s r W b)) b := by
  have h1 := decR_enc h r hr W b (r - 1) (by omega)
  rw [show r - 1 - (r - 1) = 0 by omega] at h1
  have h2 := h1.added (E16.refl (rk W 0))
  have e : encR s W b 0 = added b (rk W 0) := rfl
  rw [e, added_added] at h2
  exact h2
/-! ### What hangs on sixteen bytes alone -/
theorem E16.encR {s W W' b b' : Nat → UInt8} (hb : E16 b b') : ∀ m, (∀ j, j < 16 * (m + 1) → W j = W' j) → E16 (encR s W b m) (encR s W' b' m)
  | 0, hW => hb.added fun i hi => hW _ (by omega)
  | m + 1, hW => ((((E16.encR hb m (fun j hj => hW j (by omega))).boxed s).shifted).mixed).added fun i hi => hW _ (by omega)
theorem E16.enc {s W W' b b' : Nat → UInt8} (hb : E16 b b') (r : Nat) (hr : 0 < r) (hW : ∀ j, j < 16 * (r + 1) → W j = W' j) : E16 (enc s r W b) (enc s r W' b') :=
  (((E16.encR hb (r - 1) (fun j hj => hW j (by omega))).boxed s).shifted).added fun i hi => hW _ (by omega)
theorem E16.decR {back W b b' : Nat → UInt8} (r : Nat) (hb : E16 b b') : ∀ m, E16 (decR back r W b m) (decR back r W b' m)
  | 0 => ((hb.added (E16.refl _)).unshifted).boxed back
  | m + 1 => ((((E16.decR r hb m).added (E16.refl _)).unmixed).unshifted).boxed back
theorem E16.dec {back W b b' : Nat → UInt8} (r : Nat) (hb : E16 b b') : E16 (dec back r W b) (dec back r W b') := (E16.decR r hb (r - 1)).added (E16.refl _)

/-! ### The box -/
def boxL : List UInt8 := [99, 124, 119, 123, 242, 107, 111, 197, 48, 1, 103, 43, 254, 215, 171, 118, 202, 130, 201, 125, 250, 89, 71, 240, 173, 212, 162, 175, 156, 164, 114, 192, 183, 253, 147, 38, 54, 63, 247, 204, 52, 165, 229, 241, 113, 216, 49, 21, 4, 199, 35, 195, 24, 150, 5, 154, 7, 18, 128, 226, 235, 39, 178, 117, 9, 131, 44, 26, 27, 110, 90, 160, 82, 59, 214, 179, 41, 227, 47, 132, 83, 209, 0, 237, 32, 252, 177, 91, 106, 203, 190, 57, 74, 76, 88, 207, 208, 239, 170, 251, 67, 77, 51, 133, 69, 249, 2, 127, 80, 60, 159, 168, 81, 163, 64, 143, 146, 157, 56, 245, 188, 182, 218, 33, 16, 255, 243, 210, 205, 12, 19, 236, 95, 151, 68, 23, 196, 167, 126, 61, 100, 93, 25, 115, 96, 129, 79, 220, 34, 42, 144, 136, 70, 238, 184, 20, 222, 94, 11, 219, 224, 50, 58, 10, 73, 6, 36, 92, 194, 211, 172, 98, 145, 149, 228, 121, 231, 200, 55, 109, 141, 213, 78, 169, 108, 86, 244, 234, 101, 122, 174, 8, 186, 120, 37, 46, 28, 166, 180, 198, 232, 221, 116, 31, 75, 189, 139, 138, 112, 62, 181, 102, 72, 3, 246, 14, 97, 53, 87, 185, 134, 193, 29, 158, 225, 248, 152, 17, 105, 217, 142, 148, 155, 30, 135, 233, 206, 85, 40, 223, 140, 161, 137, 13, 191, 230, 66, 104, 65, 153, 45, 15, 176, 84, 187, 22]
def invL : List UInt8 := [82, 9, 106, 213, 48, 54, 165, 56, 191, 64, 163, 158, 129, 243, 215, 251, 124, 227, 57, 130, 155, 47, 255, 135, 52, 142, 67, 68, 196, 222, 233, 203, 84, 123, 148, 50, 166, 194, 35, 61, 238, 76, 149, 11, 66, 250, 195, 78, 8, 46, 161, 102, 40, 217, 36, 178, 118, 91, 162, 73, 109, 139, 209, 37, 114, 248, 246, 100, 134, 104, 152, 22, 212, 164, 92, 204, 93, 101, 182, 146, 108, 112, 72, 80, 253, 237, 185, 218, 94, 21, 70, 87, 167, 141, 157, 132, 144, 216, 171, 0, 140, 188, 211, 10, 247, 228, 88, 5, 184, 179, 69, 6, 208, 44, 30, 143, 202, 63, 15, 2, 193, 175, 189, 3, 1, 19, 138, 107, 58, 145, 17, 65, 79, 103, 220, 234, 151, 242, 207, 206, 240, 180, 230, 115, 150, 172, 116, 34, 231, 173, 53, 133, 226, 249, 55, 232, 28, 117, 223, 110, 71, 241, 26, 113, 29, 41, 197, 137, 111, 183, 98, 14, 170, 24, 190, 27, 252, 86, 62, 75, 198, 210, 121, 32, 154, 219, 192, 254, 120, 205, 90, 244, 31, 221, 168, 51, 136, 7, 199, 49, 177, 18, 16, 89, 39, 128, 236, 95, 96, 81, 127, 169, 25, 181, 74, 13, 45, 229, 122, 159, 147, 201, 156, 239, 160, 224, 59, 77, 174, 42, 245, 176, 200, 235, 187, 60, 131, 83, 153, 97, 23, 43, 4, 126, 186, 119, 214, 38, 225, 105, 20, 99, 85, 33, 12, 125]
def boxF (i : Nat) : UInt8 := boxL.getD i 0
def invF (i : Nat) : UInt8 := invL.getD i 0
set_option maxRecDepth 100000 in
theorem inv_box : ∀ i : Fin 256, invF (boxF i.1).toNat = UInt8.ofNat i.1 := by decide +kernel
set_option maxRecDepth 100000 in
theorem box_inv : ∀ i : Fin 256, boxF (invF i.1).toNat = UInt8.ofNat i.1 := by decide +kernel
theorem ofNat_toNat (x : UInt8) : UInt8.ofNat x.toNat = x := UInt8.ofNat_toNat
theorem undo_box : Undo boxF invF := fun x => by
  have := inv_box ⟨x.toNat, x.toNat_lt⟩
  rw [ofNat_toNat] at this
  exact this
theorem undo_inv : Undo invF boxF := fun x => by
  have := box_inv ⟨x.toNat, x.toNat_lt⟩
  rw [ofNat_toNat] at this
  exact this
theorem bk_at (s inv : Nat → UInt8) (M : Nat) (hM : M ≤ 256) (hs : ∀ i, i < M → (inv (s i).toNat).toNat = i) : ∀ j, (∃ m, m < M ∧ (s m).toNat = j) → bk s M j = inv j := by
  induction M with
  | zero => rintro j ⟨m, hm, _⟩; omega
  | succ M ih =>
    rintro j ⟨m, hm, rfl⟩
    show (if (s m).toNat = (s M).toNat then UInt8.ofNat M else bk s M (s m).toNat) = _
    by_cases h : (s m).toNat = (s M).toNat
    · rw [if_pos h, h]
      have := hs M (by omega)
      conv => lhs; rw [← this]
      rw [ofNat_toNat]
    · rw [if_neg h]
      refine ih (by omega) (fun i hi => hs i (by omega)) _ ⟨m, ?_, rfl⟩
      rcases Nat.lt_or_ge m M with h1 | h1
      · exact h1
      · exact absurd (by rw [show m = M by omega]) h
theorem inv_box' (i : Nat) (hi : i < 256) : (invF (boxF i).toNat).toNat = i := by
  have h := inv_box ⟨i, hi⟩
  simp only at h
  rw [h, UInt8.toNat_ofNat']
  omega
theorem back_eq (x : UInt8) : bk boxF 256 x.toNat = invF x.toNat := by
  refine bk_at boxF invF 256 (by omega) (fun i hi => inv_box' i hi) _ ⟨(invF x.toNat).toNat, (invF x.toNat).toNat_lt, ?_⟩
  rw [undo_inv x]
theorem undo_back : Undo boxF (bk boxF 256) := fun x => by rw [back_eq]; exact undo_box x
/-- A product of two bytes, step by step: what is gathered, the first byte, the second. -/
def tmS (a b : UInt8) : Nat → UInt8 × UInt8 × UInt8
  | 0 => (0, a, b)
  | k + 1 => (if (tmS a b k).2.2 &&& 1 = 1 then (tmS a b k).1 ^^^ (tmS a b k).2.1 else (tmS a b k).1, sl8 (tmS a b k).2.1 1 ^^^ 27 * sr8 (tmS a b k).2.1 7, sr8 (tmS a b k).2.2 1)
def tmB (a b : UInt8) : UInt8 := (tmS a b 8).1
/-- The power 254: what is gathered, the last square. -/
def sqS (b : UInt8) : Nat → UInt8 × UInt8
  | 0 => (1, b)
  | k + 1 => (tmB (sqS b k).1 (tmB (sqS b k).2 (sqS b k).2), tmB (sqS b k).2 (sqS b k).2)
def bitOf (c : UInt8) (i : Nat) : UInt8 := sr8 c i ^^^ sr8 c ((i + 4) % 8) ^^^ sr8 c ((i + 5) % 8) ^^^ sr8 c ((i + 6) % 8) ^^^ sr8 c ((i + 7) % 8) ^^^ sr8 99 i
def outS (c : UInt8) : Nat → UInt8
  | 0 => 0
  | k + 1 => outS c k ||| sl8 (bitOf c k &&& 1) k
def subF (b : UInt8) : UInt8 := outS (sqS b 7).1 8
theorem every_byte {p : UInt8 → Prop} (h : ∀ i : Fin 256, p (UInt8.ofNat i.1)) (x : UInt8) : p x := by
  have := h ⟨x.toNat, x.toNat_lt⟩
  rwa [UInt8.ofNat_toNat] at this
set_option maxRecDepth 100000 in
theorem dbl8_ : ∀ i : Fin 256, sl8 (UInt8.ofNat i.1) 1 ^^^ sr8 (UInt8.ofNat i.1) 7 * 27 = dbl (UInt8.ofNat i.1) := by decide +kernel
theorem dbl8 (x : UInt8) : sl8 x 1 ^^^ sr8 x 7 * 27 = dbl x := every_byte (p := fun x => sl8 x 1 ^^^ sr8 x 7 * 27 = dbl x) dbl8_ x
set_option maxRecDepth 100000 in
theorem tm2_ : ∀ i : Fin 256, tmB 2 (UInt8.ofNat i.1) = dbl (UInt8.ofNat i.1) := by decide +kernel
set_option maxRecDepth 100000 in
theorem tm3_ : ∀ i : Fin 256, tmB 3 (UInt8.ofNat i.1) = xr (UInt8.ofNat i.1) (dbl (UInt8.ofNat i.1)) := by decide +kernel
set_option maxRecDepth 100000 in
theorem tm14_ : ∀ i : Fin 256, tmB 14 (UInt8.ofNat i.1) = xr (xr (dbl (UInt8.ofNat i.1)) (dbl (dbl (UInt8.ofNat i.1)))) (dbl (dbl (dbl (UInt8.ofNat i.1)))) := by decide +kernel
set_option maxRecDepth 100000 in
theorem tm11_ : ∀ i : Fin 256, tmB 11 (UInt8.ofNat i.1) = xr (xr (UInt8.ofNat i.1) (dbl (UInt8.ofNat i.1))) (dbl (dbl (dbl (UInt8.ofNat i.1)))) := by decide +kernel
set_option maxRecDepth 100000 in
theorem tm13_ : ∀ i : Fin 256, tmB 13 (UInt8.ofNat i.1) = xr (xr (UInt8.ofNat i.1) (dbl (dbl (UInt8.ofNat i.1)))) (dbl (dbl (dbl (UInt8.ofNat i.1)))) := by decide +kernel
set_option maxRecDepth 100000 in
theorem tm9_ : ∀ i : Fin 256, tmB 9 (UInt8.ofNat i.1) = xr (UInt8.ofNat i.1) (dbl (dbl (dbl (UInt8.ofNat i.1)))) := by decide +kernel
set_option maxRecDepth 100000 in
theorem sub_box_ : ∀ i : Fin 256, subF (UInt8.ofNat i.1) = boxF i.1 := by decide +kernel
theorem every8 {p : UInt8 → Prop} (h : ∀ i : Fin 256, p (UInt8.ofNat i.1)) (x : UInt8) : p x := by
  have := h ⟨x.toNat, x.toNat_lt⟩
  rw [ofNat_toNat] at this
  exact this
theorem tm2 (x : UInt8) : tmB 2 x = dbl x := every8 (p := fun x => tmB 2 x = dbl x) tm2_ x
theorem tm3 (x : UInt8) : tmB 3 x = xr x (dbl x) := every8 (p := fun x => tmB 3 x = xr x (dbl x)) tm3_ x
theorem tm14 (x : UInt8) : tmB 14 x = xr (xr (dbl x) (dbl (dbl x))) (dbl (dbl (dbl x))) := every8 (p := fun x => tmB 14 x = xr (xr (dbl x) (dbl (dbl x))) (dbl (dbl (dbl x)))) tm14_ x
theorem tm11 (x : UInt8) : tmB 11 x = xr (xr x (dbl x)) (dbl (dbl (dbl x))) := every8 (p := fun x => tmB 11 x = xr (xr x (dbl x)) (dbl (dbl (dbl x)))) tm11_ x
theorem tm13 (x : UInt8) : tmB 13 x = xr (xr x (dbl (dbl x))) (dbl (dbl (dbl x))) := every8 (p := fun x => tmB 13 x = xr (xr x (dbl (dbl x))) (dbl (dbl (dbl x)))) tm13_ x
theorem tm9 (x : UInt8) : tmB 9 x = xr x (dbl (dbl (dbl x))) := every8 (p := fun x => tmB 9 x = xr x (dbl (dbl (dbl x)))) tm9_ x
theorem sub_box (i : Nat) (hi : i < 256) : subF (UInt8.ofNat i) = boxF i := sub_box_ ⟨i, hi⟩
set_option maxRecDepth 100000 in
theorem tmx2_ : ∀ i : Fin 256, tmB (UInt8.ofNat i.1) 2 = dbl (UInt8.ofNat i.1) := by decide +kernel
theorem tmx2 (x : UInt8) : tmB x 2 = dbl x := every8 (p := fun x => tmB x 2 = dbl x) tmx2_ x
/-- Columns mixed, by the document's products. -/
theorem mixed_tm (b : Nat → UInt8) (i : Nat) :
    xr (xr (xr (tmB 2 (b i)) (tmB 3 (b (i - i % 4 + (i + 1) % 4)))) (b (i - i % 4 + (i + 2) % 4))) (b (i - i % 4 + (i + 3) % 4)) = mixed b i := by
  obtain ⟨c, r, hr, rfl⟩ : ∃ c r, r < 4 ∧ i = 4 * c + r := ⟨i / 4, i % 4, by omega, by omega⟩
  rw [mixed_at b c r hr, tm2, tm3, show 4 * c + r - (4 * c + r) % 4 = 4 * c by omega, show (4 * c + r + 1) % 4 = (r + 1) % 4 by omega, show (4 * c + r + 2) % 4 = (r + 2) % 4 by omega, show (4 * c + r + 3) % 4 = (r + 3) % 4 by omega]
  unfold xr
  rcases (by omega : r = 0 ∨ r = 1 ∨ r = 2 ∨ r = 3) with rfl | rfl | rfl | rfl <;>
    (simp only [Nat.add_zero, Nat.reduceAdd, Nat.reduceMod, dbl_xor]
     generalize b (4 * c) = x0
     generalize b (4 * c + 1) = x1
     generalize b (4 * c + 2) = x2
     generalize b (4 * c + 3) = x3
     simp only [UInt8.xor_assoc, UInt8.xor_comm, xor_left, xr_cancel, UInt8.xor_self, UInt8.xor_zero])
/-- And unmixed. -/
theorem unmixed_tm (b : Nat → UInt8) (i : Nat) :
    xr (xr (xr (tmB 14 (b i)) (tmB 11 (b (i - i % 4 + (i + 1) % 4)))) (tmB 13 (b (i - i % 4 + (i + 2) % 4)))) (tmB 9 (b (i - i % 4 + (i + 3) % 4))) = unmixed b i := by
  obtain ⟨c, r, hr, rfl⟩ : ∃ c r, r < 4 ∧ i = 4 * c + r := ⟨i / 4, i % 4, by omega, by omega⟩
  have e0 := premixed_at b c 0 (by omega)
  have e1 := premixed_at b c 1 (by omega)
  have e2 := premixed_at b c 2 (by omega)
  have e3 := premixed_at b c 3 (by omega)
  simp only [Nat.add_zero, Nat.reduceAdd, Nat.reduceMod] at e0 e1 e2 e3
  unfold unmixed
  rw [mixed_at _ c r hr, tm14, tm11, tm13, tm9, show 4 * c + r - (4 * c + r) % 4 = 4 * c by omega, show (4 * c + r + 1) % 4 = (r + 1) % 4 by omega, show (4 * c + r + 2) % 4 = (r + 2) % 4 by omega, show (4 * c + r + 3) % 4 = (r + 3) % 4 by omega]
  unfold xr
  rcases (by omega : r = 0 ∨ r = 1 ∨ r = 2 ∨ r = 3) with rfl | rfl | rfl | rfl <;>
    (simp only [Nat.add_zero, Nat.reduceAdd, Nat.reduceMod, e0, e1, e2, e3, dbl_xor]
     generalize b (4 * c) = x0
     generalize b (4 * c + 1) = x1
     generalize b (4 * c + 2) = x2
     generalize b (4 * c + 3) = x3
     simp only [UInt8.xor_assoc, UInt8.xor_comm, xor_left, xr_cancel, UInt8.xor_self, UInt8.xor_zero])

/-! ### Keys of rounds, as the program has them -/
/-- The bytes of all rounds' keys. -/
def aeW (l : List UInt8) : Nat → UInt8 := ks boxF (l.length / 4) (cutF l 0) (3 * (l.length / 4) + 28)
def aeR (l : List UInt8) : Nat := l.length / 4 + 6
theorem aeW_sched (l : List UInt8) (h : 0 < l.length / 4) : Sched boxF (l.length / 4) (cutF l 0) (aeW l) := ks_sched boxF _ _ h
/-- A block in the middle, by the keys k. -/
def enM (s : Nat → UInt8) (k : Nat → Nat → UInt8) (b : Nat → UInt8) : Nat → Nat → UInt8
  | 0 => added b (k 0)
  | i + 1 => added (mixed (shifted (boxed s (enM s k b i)))) (k (i + 1))
def encG (k : Nat → Nat → UInt8) (r : Nat) (b : Nat → UInt8) : Nat → UInt8 := added (shifted (boxed boxF (enM boxF k b (r - 1)))) (k r)
def deM (k : Nat → Nat → UInt8) (r : Nat) (b : Nat → UInt8) : Nat → Nat → UInt8
  | 0 => boxed (bk boxF 256) (unshifted (added b (k r)))
  | i + 1 => boxed (bk boxF 256) (unshifted (unmixed (added (deM k r b i) (k (r - 1 - i)))))
def decG (k : Nat → Nat → UInt8) (r : Nat) (b : Nat → UInt8) : Nat → UInt8 := added (deM k r b (r - 1)) (k 0)
def aeE (l : List UInt8) (b : Nat → UInt8) : Nat → UInt8 := enc boxF (aeR l) (aeW l) b
def aeD (l : List UInt8) (b : Nat → UInt8) : Nat → UInt8 := dec (bk boxF 256) (aeR l) (aeW l) b
theorem enM_is {s : Nat → UInt8} {k : Nat → Nat → UInt8} {W b : Nat → UInt8} {r : Nat} (h : ∀ i, i ≤ r → E16 (k i) (rk W i)) : ∀ i, i ≤ r → E16 (enM s k b i) (encR s W b i)
  | 0, h0 => (E16.refl b).added (h 0 h0)
  | i + 1, hi => (((enM_is h i (by omega)).boxed s).shifted.mixed).added (h (i + 1) hi)
theorem encG_is {k : Nat → Nat → UInt8} {W b : Nat → UInt8} {r : Nat} (h : ∀ i, i ≤ r → E16 (k i) (rk W i)) : E16 (encG k r b) (enc boxF r W b) :=
  (((enM_is h (r - 1) (by omega)).boxed boxF).shifted).added (h r (Nat.le_refl _))
theorem deM_is {k : Nat → Nat → UInt8} {W b : Nat → UInt8} {r : Nat} (h : ∀ i, i ≤ r → E16 (k i) (rk W i)) : ∀ i, E16 (deM k r b i) (decR (bk boxF 256) r W b i)
  | 0 => (((E16.refl b).added (h r (Nat.le_refl _))).unshifted).boxed _
  | i + 1 => (((((deM_is h i).added (h (r - 1 - i) (by omega))).unmixed).unshifted)).boxed _
theorem decG_is {k : Nat → Nat → UInt8} {W b : Nat → UInt8} {r : Nat} (h : ∀ i, i ≤ r → E16 (k i) (rk W i)) : E16 (decG k r b) (dec (bk boxF 256) r W b) :=
  (deM_is h (r - 1)).added (h 0 (by omega))
theorem aeE_E16 (l : List UInt8) {b b' : Nat → UInt8} (hl : 0 < aeR l) (h : E16 b b') : E16 (aeE l b) (aeE l b') := E16.enc h _ hl (fun _ _ => rfl)
theorem aeD_E16 (l : List UInt8) {b b' : Nat → UInt8} (h : E16 b b') : E16 (aeD l b) (aeD l b') := E16.dec _ h
theorem aeD_aeE (l : List UInt8) (b : Nat → UInt8) : E16 (aeD l (aeE l b)) b := dec_enc undo_back _ (by unfold aeR; omega) _ _
end Go.Proofs.YtfloiekaiiapnaaGreatDoor

namespace Go.Proofs.YtfloiekaiiapnaaGreatDoor
open Go Go.RowKit
set_option maxRecDepth 100000

section
variable {P : Program} {o : Oper} {n : Sz} {l : Slots} {x y : Operand} {t t2 : TypeId} {u v : UInt8}
theorem Vl.ub (z : UInt8) (ho : o.op = .binOp .mul t x y t2 := by exact rfl) (hx : vo l x = some (.int .u8 (u.toNat : Int)) := by exact rfl) (hy : vo l y = some (.int .u8 (v.toNat : Int)) := by exact rfl) (hz : u * v = z := by exact rfl) : Vl P n l o (.int .u8 (z.toNat : Int)) := fun _ _ hF =>
  opMulU rfl ho (hF.vo hx) (hF.vo hy) (by subst hz; exact (UInt8.toNat_mul u v).symm)
end
/-- What has been put of a block turned back. -/
def unsT (m : Nat) (f : Nat → UInt8) : Nat → UInt8 := fun j => if (j + j % 4 * 12) % 16 < m then unshifted f j else 0
theorem unsT_step {m : Nat} (hm : m < 16) (f : Nat → UInt8) (j : Nat) (hj : j < 16) : unsT (m + 1) f j = stF (unsT m f) ((m + m % 4 * 4) % 16) (f m) j := by
  unfold unsT stF
  by_cases h : j = (m + m % 4 * 4) % 16
  · rw [if_pos h, if_pos (by omega)]
    show f ((j + j % 4 * 12) % 16) = f m
    rw [show (j + j % 4 * 12) % 16 = m by omega]
  · rw [if_neg h]
    show _ = if (j + j % 4 * 12) % 16 < m then unshifted f j else 0
    by_cases h2 : (j + j % 4 * 12) % 16 < m
    · rw [if_pos h2, if_pos (by omega)]
    · rw [if_neg h2, if_neg (by omega)]
theorem unsT_all (f : Nat → UInt8) (j : Nat) (_ : j < 16) : unshifted f j = unsT 16 f j := (if_pos (by omega)).symm

set_option maxHeartbeats 8000000 in
theorem dbl_c (x : UInt8) : Pure Tryz.prog 96 #[(.int .u8 (((x.toNat) : Nat) : Int))] (fun _ => True) (.int .u8 ((((dbl x).toNat) : Nat) : Int)) := by
  refine pure_of (fn := Tryz.f96) Tryz.func96 rfl Tryz.ntmps96 (Nat.le_of_ble_eq_true rfl) rfl ?_
  intro w0 hH hR
  refine zr ?_
  refine zv .mv 0 ?_
  refine zn ?_
  refine zr ?_
  refine zv .mv 1 ?_
  refine zv (.lb 1 (u := x)) 1 ?_
  refine zv .mv 2 ?_
  refine zv (.rb 7 (u := x)) 1 ?_
  refine zv (.ub ((sr8 x 7) * (27 : UInt8)) (u := (sr8 x 7)) (v := (27 : UInt8))) 1 ?_
  refine zv (.xb (dbl x) (u := (sl8 x 1)) (v := ((sr8 x 7) * (27 : UInt8))) (hz := dbl8 x)) 3 ?_
  refine zv .mv 1 ?_
  refine zn ?_
  refine cxRet ?_
  refine qxRet1 0 rfl rfl ?_
  exact ⟨rfl, HH.toBelow hH⟩

set_option maxHeartbeats 8000000 in
theorem added_c (f k : Nat → UInt8) : Pure Tryz.prog 92 #[((cArr 16).val f), ((cArr 16).val k)] (fun _ => True) ((cArr 16).val (added f k)) := by
  refine pure_of (fn := Tryz.f92) Tryz.func92 rfl Tryz.ntmps92 (Nat.le_of_ble_eq_true rfl) rfl ?_
  intro w0 hH hR
  refine zr ?_
  refine zm hH (.bx (cArr 16) f) trivial 1 ?_
  clear hH
  rintro _ _ w ⟨g1, rfl, rfl⟩ hH
  refine zm hH (.bx (cArr 16) k) trivial 2 ?_
  clear hH
  rintro _ _ w ⟨g2, rfl, rfl⟩ hH
  refine zm hH (.al (cArr 16) (fun _ => 0)) trivial 0 ?_
  clear hH
  rintro _ _ w ⟨g3, rfl, rfl⟩ hH
  refine zn ?_
  refine cxSeq ?_
  refine zr ?_
  refine zv .mv 0 ?_
  refine zn ?_
  refine cxBlock ?_
  have he4 : (cArr 16).enc (upF 0 (added f k) f) = (cArr 16).enc f := arr_congr (fun j _ => by rw [upF_zero])
  replace hH : HH w0 [] [[bl g1 61 ((cArr 16).enc (upF 0 (added f k) f))], [bl g2 61 ((cArr 16).enc k)], [bl g3 61 ((cArr 16).enc (fun _ => 0))]] w := by rw [he4]; exact hH
  refine zL1 (fun (i : Nat) => [(6, (.int .i64 (((i) : Nat) : Int))), (4, (.pointer (some ⟨g3, 0, none⟩))), (3, (.pointer (some ⟨g2, 0, none⟩))), (2, (.pointer (some ⟨g1, 0, none⟩)))]) (fun i w => HH w0 [] [[bl g1 61 ((cArr 16).enc (upF i (added f k) f))], [bl g2 61 ((cArr 16).enc k)], [bl g3 61 ((cArr 16).enc (fun _ => 0))]] w ∧ (i ≤ 16)) (fun i => 16 - i) 0 ⟨hH, (Nat.zero_le _)⟩ ?_
  clear hH
  rintro i w ⟨hH, hi⟩
  refine zr ?_
  refine zv (.lt (i < 16)) 0 ?_
  refine zn ?_
  refine cxSeq ?_
  refine zP (fun hc5 => ?_) (fun hc5 => ?_)
  refine cxSkip ?_
  refine qxThen ?_
  refine cxSeq ?_
  refine cxBlock ?_
  refine zr ?_
  refine zv .mv 1 ?_
  refine zv .mv 1 ?_
  refine zn ?_
  refine cxRegX mixedOrders (by kernel_rfl) ?_
  replace hH := hH.drew
  refine rv 0 .mv 0 ?_
  have hi6 : i < 16 := by omega
  refine rv 1 (.ia 1 16 i (hi := hi6)) 0 ?_
  refine rld 2 (hH.q 0 rfl) (.ld cByte ((upF i (added f k) f) i) (fun _ hS => ((holds_blk0 hS).elt hi6))) 1 ?_
  refine rv 3 .mv 4 ?_
  have hi7 : i < 16 := by omega
  refine rv 4 (.ia 1 16 i (hi := hi7)) 1 ?_
  refine rld 5 (hH.q 1 rfl) (.ld cByte (k i) (fun _ hS => ((holds_blk0 hS).elt hi7))) 1 ?_
  refine rv 6 (.xb (((upF i (added f k) f) i) ^^^ (k i)) (u := ((upF i (added f k) f) i)) (v := (k i))) 3 ?_
  have hi8 : i < 16 := by omega
  refine rv 7 (.ia 1 16 i (hi := hi8)) 2 ?_
  refine rx1k 8 ?_
  refine re0 8 0 hH rfl (.st cByte (((upF i (added f k) f) i) ^^^ (k i)) (room_1 (S := sBy) (C := (cArr 16)) rfl hi8) (arr_set0 (upF i (added f k) f) (((upF i (added f k) f) i) ^^^ (k i)) hi8)) trivial (pgo [] (pgo [] (.nil _ []))) ?_
  clear hH
  rintro _ _ w rfl hH
  refine ⟨pnil, ?_⟩
  refine rxEnd (by kernel_rfl) ?_
  refine qxInN ?_
  refine qxThen ?_
  refine cxReg ?_
  refine zv (.add ((i + 1 : Nat) : Int)) 7 ?_
  refine zv .mv 1 ?_
  refine pxEnd ?_
  have he9 : (cArr 16).enc (upF (i + 1) (added f k) f) = (cArr 16).enc (stF (upF i (added f k) f) i (((upF i (added f k) f) i) ^^^ (k i))) := arr_congr (fun j _ => (congrFun (upF_step i (added f k) f (by rw [upF_at]; rfl)) j).symm)
  replace hH : HH w0 [] [[bl g1 61 ((cArr 16).enc (upF (i + 1) (added f k) f))], [bl g2 61 ((cArr 16).enc k)], [bl g3 61 ((cArr 16).enc (fun _ => 0))]] w := by rw [he9]; exact hH
  exact zR1 (i + 1) ⟨hH, (by omega)⟩ (by omega)
  refine cxExit ?_
  refine qxThenE ?_
  refine qxThenE ?_
  refine qxInE ?_
  refine qxThen ?_
  obtain rfl : i = 16 := by omega
  have he10 : (cArr 16).enc (added f k) = (cArr 16).enc (upF 16 (added f k) f) := arr_congr (fun j hj => (upF_lt _ _ hj).symm)
  replace hH : HH w0 [] [[bl g1 61 ((cArr 16).enc (added f k))], [bl g2 61 ((cArr 16).enc k)], [bl g3 61 ((cArr 16).enc (fun _ => 0))]] w := by rw [he10]; exact hH
  refine zr ?_
  refine zs (hH.q 0 rfl) (.ld (cArr 16) (added f k) (fun _ hS => (holds_blk0 hS))) 27 ?_
  refine ze0 2 hH rfl (.sw (cArr 16) (fun _ => 0) (added f k)) trivial ?_
  clear hH
  rintro _ _ w rfl hH
  refine zn ?_
  refine cxRet ?_
  refine qxRetC 1 (hH.blk 2 rfl) rfl rfl (by kernel_rfl) (Cod.size _ _) (by kernel_rfl) ?_
  exact ⟨rfl, HH.toBelow hH⟩

set_option maxHeartbeats 8000000 in
theorem boxed_c (f : Nat → UInt8) : Pure Tryz.prog 95 #[((cArr 16).val f)] (fun w => w.heap[2]? = some (.cells ((cArr 256).enc boxF) 105 (0, 0))) ((cArr 16).val (boxed boxF f)) := by
  refine pure_of (fn := Tryz.f95) Tryz.func95 rfl Tryz.ntmps95 (Nat.le_of_ble_eq_true rfl) rfl ?_
  intro w0 hH hR
  refine zr ?_
  refine zm hH (.bx (cArr 16) f) trivial 1 ?_
  clear hH
  rintro _ _ w ⟨g1, rfl, rfl⟩ hH
  refine zm hH (.al (cArr 16) (fun _ => 0)) trivial 0 ?_
  clear hH
  rintro _ _ w ⟨g2, rfl, rfl⟩ hH
  refine zn ?_
  refine cxSeq ?_
  refine zr ?_
  refine zs (hH.q 0 rfl) (.ld (cArr 16) f (fun _ hS => (holds_blk0 hS))) 0 ?_
  refine zv .mv 0 ?_
  refine zn ?_
  refine cxBlock ?_
  have he3 : (cArr 16).enc (upF 0 (boxed boxF f) f) = (cArr 16).enc f := arr_congr (fun j _ => by rw [upF_zero])
  replace hH : HH w0 [] [[bl g1 61 ((cArr 16).enc (upF 0 (boxed boxF f) f))], [bl g2 61 ((cArr 16).enc (fun _ => 0))]] w := by rw [he3]; exact hH
  refine zL1 (fun (i : Nat) => [(6, (.int .i64 (((i) : Nat) : Int))), (5, ((cArr 16).val f)), (2, (.pointer (some ⟨g2, 0, none⟩))), (1, (.pointer (some ⟨g1, 0, none⟩)))]) (fun i w => HH w0 [] [[bl g1 61 ((cArr 16).enc (upF i (boxed boxF f) f))], [bl g2 61 ((cArr 16).enc (fun _ => 0))]] w ∧ (i ≤ 16)) (fun i => 16 - i) 0 ⟨hH, (Nat.zero_le _)⟩ ?_
  clear hH
  rintro i w ⟨hH, hi⟩
  refine zr ?_
  refine zv (.lt (i < 16)) 0 ?_
  refine zn ?_
  refine cxSeq ?_
  refine zP (fun hc4 => ?_) (fun hc4 => ?_)
  refine cxSkip ?_
  refine qxThen ?_
  refine cxSeq ?_
  refine cxBlock ?_
  refine zr ?_
  refine zv .mv 1 ?_
  have hi5 : i < 16 := by omega
  refine zv (v := (.int .u8 ((((f i).toNat) : Nat) : Int))) (fun _ _ hF => opIdxA (S := sBy) (e := 5) (n := 16) (i := i) (f := f) rfl (by kernel_rfl) (by kernel_rfl) (hF.ev 2 rfl) (hF.ev 1 rfl) rfl hi5) 0 ?_
  refine zv .mv 2 ?_
  refine zv .mv 2 ?_
  refine zn ?_
  refine cxReg ?_
  refine zv .mv 2 ?_
  refine zv .mv 2 ?_
  have hi6 : (f i).toNat < 256 := UInt8.toNat_lt _
  refine zv (.ia 1 256 ((f i).toNat) (hi := hi6)) 1 ?_
  refine zs (hH.ob hR) (.ld cByte (boxF ((f i).toNat)) (fun _ hS => ((holds_blk0 hS).elt hi6))) 1 ?_
  have hi7 : i < 16 := by omega
  refine zv (.ia 1 16 i (hi := hi7)) 2 ?_
  refine ze0 0 hH rfl (.st cByte (boxF ((f i).toNat)) (room_1 (S := sBy) (C := (cArr 16)) rfl hi7) (arr_set0 (upF i (boxed boxF f) f) (boxF ((f i).toNat)) hi7)) trivial ?_
  clear hH
  rintro _ _ w rfl hH
  refine pxEnd ?_
  refine qxInN ?_
  refine qxThen ?_
  refine cxReg ?_
  refine zv (.add ((i + 1 : Nat) : Int)) 7 ?_
  refine zv .mv 1 ?_
  refine pxEnd ?_
  have he8 : (cArr 16).enc (upF (i + 1) (boxed boxF f) f) = (cArr 16).enc (stF (upF i (boxed boxF f) f) i (boxF ((f i).toNat))) := arr_congr (fun j _ => (congrFun (upF_step i (boxed boxF f) f (rfl)) j).symm)
  replace hH : HH w0 [] [[bl g1 61 ((cArr 16).enc (upF (i + 1) (boxed boxF f) f))], [bl g2 61 ((cArr 16).enc (fun _ => 0))]] w := by rw [he8]; exact hH
  exact zR1 (i + 1) ⟨hH, (by omega)⟩ (by omega)
  refine cxExit ?_
  refine qxThenE ?_
  refine qxThenE ?_
  refine qxInE ?_
  refine qxThen ?_
  obtain rfl : i = 16 := by omega
  have he9 : (cArr 16).enc (boxed boxF f) = (cArr 16).enc (upF 16 (boxed boxF f) f) := arr_congr (fun j hj => (upF_lt _ _ hj).symm)
  replace hH : HH w0 [] [[bl g1 61 ((cArr 16).enc (boxed boxF f))], [bl g2 61 ((cArr 16).enc (fun _ => 0))]] w := by rw [he9]; exact hH
  refine zr ?_
  refine zs (hH.q 0 rfl) (.ld (cArr 16) (boxed boxF f) (fun _ hS => (holds_blk0 hS))) 23 ?_
  refine ze0 1 hH rfl (.sw (cArr 16) (fun _ => 0) (boxed boxF f)) trivial ?_
  clear hH
  rintro _ _ w rfl hH
  refine zn ?_
  refine cxRet ?_
  refine qxRetC 1 (hH.blk 1 rfl) rfl rfl (by kernel_rfl) (Cod.size _ _) (by kernel_rfl) ?_
  exact ⟨rfl, HH.toBelow hH⟩

set_option maxHeartbeats 8000000 in
theorem unboxed_c (g : Nat) (s f : Nat → UInt8) : Pure Tryz.prog 104 #[(.pointer (some ⟨g, 0, none⟩)), ((cArr 16).val f)] (fun w => w.heap[g]? = some (.cells ((cArr 256).enc s) 105 (0, 0))) ((cArr 16).val (boxed s f)) := by
  refine pure_of (fn := Tryz.f104) Tryz.func104 rfl Tryz.ntmps104 (Nat.le_of_ble_eq_true rfl) rfl ?_
  intro w0 hH hR
  refine zr ?_
  refine zm hH (.bx (cArr 16) f) trivial 2 ?_
  clear hH
  rintro _ _ w ⟨g1, rfl, rfl⟩ hH
  refine zm hH (.al (cArr 16) (fun _ => 0)) trivial 0 ?_
  clear hH
  rintro _ _ w ⟨g2, rfl, rfl⟩ hH
  refine zn ?_
  refine cxSeq ?_
  refine zr ?_
  refine zs (hH.q 0 rfl) (.ld (cArr 16) f (fun _ hS => (holds_blk0 hS))) 0 ?_
  refine zv .mv 0 ?_
  refine zn ?_
  refine cxBlock ?_
  have he3 : (cArr 16).enc (upF 0 (boxed s f) f) = (cArr 16).enc f := arr_congr (fun j _ => by rw [upF_zero])
  replace hH : HH w0 [] [[bl g1 61 ((cArr 16).enc (upF 0 (boxed s f) f))], [bl g2 61 ((cArr 16).enc (fun _ => 0))]] w := by rw [he3]; exact hH
  refine zL1 (fun (i : Nat) => [(8, (.int .i64 (((i) : Nat) : Int))), (7, ((cArr 16).val f)), (4, (.pointer (some ⟨g2, 0, none⟩))), (3, (.pointer (some ⟨g1, 0, none⟩))), (0, (.pointer (some ⟨g, 0, none⟩)))]) (fun i w => HH w0 [] [[bl g1 61 ((cArr 16).enc (upF i (boxed s f) f))], [bl g2 61 ((cArr 16).enc (fun _ => 0))]] w ∧ (i ≤ 16)) (fun i => 16 - i) 0 ⟨hH, (Nat.zero_le _)⟩ ?_
  clear hH
  rintro i w ⟨hH, hi⟩
  refine zr ?_
  refine zv (.lt (i < 16)) 0 ?_
  refine zn ?_
  refine cxSeq ?_
  refine zP (fun hc4 => ?_) (fun hc4 => ?_)
  refine cxSkip ?_
  refine qxThen ?_
  refine cxSeq ?_
  refine cxBlock ?_
  refine zr ?_
  refine zv .mv 1 ?_
  have hi5 : i < 16 := by omega
  refine zv (v := (.int .u8 ((((f i).toNat) : Nat) : Int))) (fun _ _ hF => opIdxA (S := sBy) (e := 5) (n := 16) (i := i) (f := f) rfl (by kernel_rfl) (by kernel_rfl) (hF.ev 2 rfl) (hF.ev 1 rfl) rfl hi5) 0 ?_
  refine zv .mv 2 ?_
  refine zv .mv 2 ?_
  refine zn ?_
  refine cxReg ?_
  refine zv .mv 2 ?_
  refine zv .mv 0 ?_
  refine zv .mv 4 ?_
  refine zv .nc 2 ?_
  have hi6 : (f i).toNat < 256 := UInt8.toNat_lt _
  refine zv (.ia 1 256 ((f i).toNat) (hi := hi6)) 3 ?_
  refine zs (hH.ob hR) (.ld cByte (s ((f i).toNat)) (fun _ hS => ((holds_blk0 hS).elt hi6))) 1 ?_
  have hi7 : i < 16 := by omega
  refine zv (.ia 1 16 i (hi := hi7)) 2 ?_
  refine ze0 0 hH rfl (.st cByte (s ((f i).toNat)) (room_1 (S := sBy) (C := (cArr 16)) rfl hi7) (arr_set0 (upF i (boxed s f) f) (s ((f i).toNat)) hi7)) trivial ?_
  clear hH
  rintro _ _ w rfl hH
  refine pxEnd ?_
  refine qxInN ?_
  refine qxThen ?_
  refine cxReg ?_
  refine zv (.add ((i + 1 : Nat) : Int)) 7 ?_
  refine zv .mv 1 ?_
  refine pxEnd ?_
  have he8 : (cArr 16).enc (upF (i + 1) (boxed s f) f) = (cArr 16).enc (stF (upF i (boxed s f) f) i (s ((f i).toNat))) := arr_congr (fun j _ => (congrFun (upF_step i (boxed s f) f (rfl)) j).symm)
  replace hH : HH w0 [] [[bl g1 61 ((cArr 16).enc (upF (i + 1) (boxed s f) f))], [bl g2 61 ((cArr 16).enc (fun _ => 0))]] w := by rw [he8]; exact hH
  exact zR1 (i + 1) ⟨hH, (by omega)⟩ (by omega)
  refine cxExit ?_
  refine qxThenE ?_
  refine qxThenE ?_
  refine qxInE ?_
  refine qxThen ?_
  obtain rfl : i = 16 := by omega
  have he9 : (cArr 16).enc (boxed s f) = (cArr 16).enc (upF 16 (boxed s f) f) := arr_congr (fun j hj => (upF_lt _ _ hj).symm)
  replace hH : HH w0 [] [[bl g1 61 ((cArr 16).enc (boxed s f))], [bl g2 61 ((cArr 16).enc (fun _ => 0))]] w := by rw [he9]; exact hH
  refine zr ?_
  refine zs (hH.q 0 rfl) (.ld (cArr 16) (boxed s f) (fun _ hS => (holds_blk0 hS))) 55 ?_
  refine ze0 1 hH rfl (.sw (cArr 16) (fun _ => 0) (boxed s f)) trivial ?_
  clear hH
  rintro _ _ w rfl hH
  refine zn ?_
  refine cxRet ?_
  refine qxRetC 1 (hH.blk 1 rfl) rfl rfl (by kernel_rfl) (Cod.size _ _) (by kernel_rfl) ?_
  exact ⟨rfl, HH.toBelow hH⟩

set_option maxHeartbeats 8000000 in
theorem shifted_c (f : Nat → UInt8) : Pure Tryz.prog 94 #[((cArr 16).val f)] (fun _ => True) ((cArr 16).val (shifted f)) := by
  refine pure_of (fn := Tryz.f94) Tryz.func94 rfl Tryz.ntmps94 (Nat.le_of_ble_eq_true rfl) rfl ?_
  intro w0 hH hR
  refine zr ?_
  refine zm hH (.bx (cArr 16) f) trivial 1 ?_
  clear hH
  rintro _ _ w ⟨g1, rfl, rfl⟩ hH
  refine zm hH (.al (cArr 16) (fun _ => 0)) trivial 0 ?_
  clear hH
  rintro _ _ w ⟨g2, rfl, rfl⟩ hH
  refine zn ?_
  refine zr ?_
  refine zm hH (.al (cArr 16) (fun _ => 0)) trivial 0 ?_
  clear hH
  rintro _ _ w ⟨g3, rfl, rfl⟩ hH
  refine zn ?_
  refine cxSeq ?_
  refine zr ?_
  refine zv .mv 0 ?_
  refine zn ?_
  refine cxBlock ?_
  have he4 : (cArr 16).enc (upF 0 (shifted f) (fun _ => 0)) = (cArr 16).enc (fun _ => 0) := arr_congr (fun j _ => by rw [upF_zero])
  replace hH : HH w0 [] [[bl g1 61 ((cArr 16).enc f)], [bl g2 61 ((cArr 16).enc (fun _ => 0))], [bl g3 61 ((cArr 16).enc (upF 0 (shifted f) (fun _ => 0)))]] w := by rw [he4]; exact hH
  refine zL1 (fun (i : Nat) => [(5, (.int .i64 (((i) : Nat) : Int))), (3, (.pointer (some ⟨g3, 0, none⟩))), (2, (.pointer (some ⟨g2, 0, none⟩))), (1, (.pointer (some ⟨g1, 0, none⟩)))]) (fun i w => HH w0 [] [[bl g1 61 ((cArr 16).enc f)], [bl g2 61 ((cArr 16).enc (fun _ => 0))], [bl g3 61 ((cArr 16).enc (upF i (shifted f) (fun _ => 0)))]] w ∧ (i ≤ 16)) (fun i => 16 - i) 0 ⟨hH, (Nat.zero_le _)⟩ ?_
  clear hH
  rintro i w ⟨hH, hi⟩
  refine zr ?_
  refine zv (.lt (i < 16)) 0 ?_
  refine zn ?_
  refine cxSeq ?_
  refine zP (fun hc5 => ?_) (fun hc5 => ?_)
  refine cxSkip ?_
  refine qxThen ?_
  refine cxSeq ?_
  refine cxBlock ?_
  refine zr ?_
  refine zv .mv 1 ?_
  refine zv .mv 1 ?_
  refine zn ?_
  refine cxReg ?_
  refine zv .mv 0 ?_
  refine zv .mv 0 ?_
  refine zv .mv 4 ?_
  refine zv (v := (.int .i64 (((i % 4) : Nat) : Int))) (fun _ _ hF => opRem (z := ((i % 4 : Nat) : Int)) rfl (hF.ev 0 rfl) rfl (by omega) remN) 1 ?_
  refine zv (.mul (((i % 4) * 4 : Nat) : Int)) 1 ?_
  refine zv (.add ((i + ((i % 4) * 4) : Nat) : Int)) 3 ?_
  refine zv (v := (.int .i64 ((((i + ((i % 4) * 4)) % 16) : Nat) : Int))) (fun _ _ hF => opRem (z := (((i + ((i % 4) * 4)) % 16 : Nat) : Int)) rfl (hF.ev 0 rfl) rfl (by omega) remN) 1 ?_
  have hi6 : (i + ((i % 4) * 4)) % 16 < 16 := by omega
  refine zv (.ia 1 16 ((i + ((i % 4) * 4)) % 16) (hi := hi6)) 1 ?_
  refine zs (hH.q 0 rfl) (.ld cByte (f ((i + ((i % 4) * 4)) % 16)) (fun _ hS => ((holds_blk0 hS).elt hi6))) 1 ?_
  have hi7 : i < 16 := by omega
  refine zv (.ia 1 16 i (hi := hi7)) 2 ?_
  refine ze0 2 hH rfl (.st cByte (f ((i + ((i % 4) * 4)) % 16)) (room_1 (S := sBy) (C := (cArr 16)) rfl hi7) (arr_set0 (upF i (shifted f) (fun _ => 0)) (f ((i + ((i % 4) * 4)) % 16)) hi7)) trivial ?_
  clear hH
  rintro _ _ w rfl hH
  refine pxEnd ?_
  refine qxInN ?_
  refine qxThen ?_
  refine cxReg ?_
  refine zv (.add ((i + 1 : Nat) : Int)) 7 ?_
  refine zv .mv 1 ?_
  refine pxEnd ?_
  have he8 : (cArr 16).enc (upF (i + 1) (shifted f) (fun _ => 0)) = (cArr 16).enc (stF (upF i (shifted f) (fun _ => 0)) i (f ((i + ((i % 4) * 4)) % 16))) := arr_congr (fun j _ => (congrFun (upF_step i (shifted f) (fun _ => 0) (rfl)) j).symm)
  replace hH : HH w0 [] [[bl g1 61 ((cArr 16).enc f)], [bl g2 61 ((cArr 16).enc (fun _ => 0))], [bl g3 61 ((cArr 16).enc (upF (i + 1) (shifted f) (fun _ => 0)))]] w := by rw [he8]; exact hH
  exact zR1 (i + 1) ⟨hH, (by omega)⟩ (by omega)
  refine cxExit ?_
  refine qxThenE ?_
  refine qxThenE ?_
  refine qxInE ?_
  refine qxThen ?_
  obtain rfl : i = 16 := by omega
  have he9 : (cArr 16).enc (shifted f) = (cArr 16).enc (upF 16 (shifted f) (fun _ => 0)) := arr_congr (fun j hj => (upF_lt _ _ hj).symm)
  replace hH : HH w0 [] [[bl g1 61 ((cArr 16).enc f)], [bl g2 61 ((cArr 16).enc (fun _ => 0))], [bl g3 61 ((cArr 16).enc (shifted f))]] w := by rw [he9]; exact hH
  refine zr ?_
  refine zs (hH.q 2 rfl) (.ld (cArr 16) (shifted f) (fun _ hS => (holds_blk0 hS))) 23 ?_
  refine ze0 1 hH rfl (.sw (cArr 16) (fun _ => 0) (shifted f)) trivial ?_
  clear hH
  rintro _ _ w rfl hH
  refine zn ?_
  refine cxRet ?_
  refine qxRetC 1 (hH.blk 1 rfl) rfl rfl (by kernel_rfl) (Cod.size _ _) (by kernel_rfl) ?_
  exact ⟨rfl, HH.toBelow hH⟩

set_option maxHeartbeats 8000000 in
theorem unshifted_c (f : Nat → UInt8) : Pure Tryz.prog 105 #[((cArr 16).val f)] (fun _ => True) ((cArr 16).val (unshifted f)) := by
  refine pure_of (fn := Tryz.f105) Tryz.func105 rfl Tryz.ntmps105 (Nat.le_of_ble_eq_true rfl) rfl ?_
  intro w0 hH hR
  refine zr ?_
  refine zm hH (.bx (cArr 16) f) trivial 1 ?_
  clear hH
  rintro _ _ w ⟨g1, rfl, rfl⟩ hH
  refine zm hH (.al (cArr 16) (fun _ => 0)) trivial 0 ?_
  clear hH
  rintro _ _ w ⟨g2, rfl, rfl⟩ hH
  refine zn ?_
  refine zr ?_
  refine zm hH (.al (cArr 16) (fun _ => 0)) trivial 0 ?_
  clear hH
  rintro _ _ w ⟨g3, rfl, rfl⟩ hH
  refine zn ?_
  refine cxSeq ?_
  refine zr ?_
  refine zv .mv 0 ?_
  refine zn ?_
  refine cxBlock ?_
  have he4 : (cArr 16).enc (unsT 0 f) = (cArr 16).enc (fun _ => 0) := arr_congr (fun j _ => if_neg (Nat.not_lt_zero _))
  replace hH : HH w0 [] [[bl g1 61 ((cArr 16).enc f)], [bl g2 61 ((cArr 16).enc (fun _ => 0))], [bl g3 61 ((cArr 16).enc (unsT 0 f))]] w := by rw [he4]; exact hH
  refine zL1 (fun (i : Nat) => [(5, (.int .i64 (((i) : Nat) : Int))), (3, (.pointer (some ⟨g3, 0, none⟩))), (2, (.pointer (some ⟨g2, 0, none⟩))), (1, (.pointer (some ⟨g1, 0, none⟩)))]) (fun i w => HH w0 [] [[bl g1 61 ((cArr 16).enc f)], [bl g2 61 ((cArr 16).enc (fun _ => 0))], [bl g3 61 ((cArr 16).enc (unsT i f))]] w ∧ (i ≤ 16)) (fun i => 16 - i) 0 ⟨hH, (Nat.zero_le _)⟩ ?_
  clear hH
  rintro i w ⟨hH, hi⟩
  refine zr ?_
  refine zv (.lt (i < 16)) 0 ?_
  refine zn ?_
  refine cxSeq ?_
  refine zP (fun hc5 => ?_) (fun hc5 => ?_)
  refine cxSkip ?_
  refine qxThen ?_
  refine cxSeq ?_
  refine cxBlock ?_
  refine zr ?_
  refine zv .mv 1 ?_
  refine zv .mv 1 ?_
  refine zn ?_
  refine cxReg ?_
  refine zv .mv 0 ?_
  refine zv .mv 0 ?_
  refine zv (v := (.int .i64 (((i % 4) : Nat) : Int))) (fun _ _ hF => opRem (z := ((i % 4 : Nat) : Int)) rfl (hF.ev 0 rfl) rfl (by omega) remN) 1 ?_
  refine zv (.mul (((i % 4) * 4 : Nat) : Int)) 1 ?_
  refine zv (.add ((i + ((i % 4) * 4) : Nat) : Int)) 3 ?_
  refine zv (v := (.int .i64 ((((i + ((i % 4) * 4)) % 16) : Nat) : Int))) (fun _ _ hF => opRem (z := (((i + ((i % 4) * 4)) % 16 : Nat) : Int)) rfl (hF.ev 0 rfl) rfl (by omega) remN) 1 ?_
  refine zv .mv 2 ?_
  have hi6 : i < 16 := by omega
  refine zv (.ia 1 16 i (hi := hi6)) 1 ?_
  refine zs (hH.q 0 rfl) (.ld cByte (f i) (fun _ hS => ((holds_blk0 hS).elt hi6))) 1 ?_
  have hi7 : (i + ((i % 4) * 4)) % 16 < 16 := by omega
  refine zv (.ia 1 16 ((i + ((i % 4) * 4)) % 16) (hi := hi7)) 2 ?_
  refine ze0 2 hH rfl (.st cByte (f i) (room_1 (S := sBy) (C := (cArr 16)) rfl hi7) (arr_set0 (unsT i f) (f i) hi7)) trivial ?_
  clear hH
  rintro _ _ w rfl hH
  refine pxEnd ?_
  refine qxInN ?_
  refine qxThen ?_
  refine cxReg ?_
  refine zv (.add ((i + 1 : Nat) : Int)) 7 ?_
  refine zv .mv 1 ?_
  refine pxEnd ?_
  have he8 : (cArr 16).enc (unsT (i + 1) f) = (cArr 16).enc (stF (unsT i f) ((i + ((i % 4) * 4)) % 16) (f i)) := arr_congr (unsT_step (by omega) f)
  replace hH : HH w0 [] [[bl g1 61 ((cArr 16).enc f)], [bl g2 61 ((cArr 16).enc (fun _ => 0))], [bl g3 61 ((cArr 16).enc (unsT (i + 1) f))]] w := by rw [he8]; exact hH
  exact zR1 (i + 1) ⟨hH, (by omega)⟩ (by omega)
  refine cxExit ?_
  refine qxThenE ?_
  refine qxThenE ?_
  refine qxInE ?_
  refine qxThen ?_
  obtain rfl : i = 16 := by omega
  have he9 : (cArr 16).enc (unshifted f) = (cArr 16).enc (unsT 16 f) := arr_congr (unsT_all f)
  replace hH : HH w0 [] [[bl g1 61 ((cArr 16).enc f)], [bl g2 61 ((cArr 16).enc (fun _ => 0))], [bl g3 61 ((cArr 16).enc (unshifted f))]] w := by rw [he9]; exact hH
  refine zr ?_
  refine zs (hH.q 2 rfl) (.ld (cArr 16) (unshifted f) (fun _ hS => (holds_blk0 hS))) 23 ?_
  refine ze0 1 hH rfl (.sw (cArr 16) (fun _ => 0) (unshifted f)) trivial ?_
  clear hH
  rintro _ _ w rfl hH
  refine zn ?_
  refine cxRet ?_
  refine qxRetC 1 (hH.blk 1 rfl) rfl rfl (by kernel_rfl) (Cod.size _ _) (by kernel_rfl) ?_
  exact ⟨rfl, HH.toBelow hH⟩

set_option maxHeartbeats 8000000 in
theorem mixed_c (f : Nat → UInt8) : Pure Tryz.prog 93 #[((cArr 16).val f)] (fun _ => True) ((cArr 16).val (mixed f)) := by
  refine pure_of (fn := Tryz.f93) Tryz.func93 rfl Tryz.ntmps93 (Nat.le_of_ble_eq_true rfl) rfl ?_
  intro w0 hH hR
  refine zr ?_
  refine zm hH (.bx (cArr 16) f) trivial 1 ?_
  clear hH
  rintro _ _ w ⟨g1, rfl, rfl⟩ hH
  refine zm hH (.al (cArr 16) (fun _ => 0)) trivial 0 ?_
  clear hH
  rintro _ _ w ⟨g2, rfl, rfl⟩ hH
  refine zn ?_
  refine zr ?_
  refine zm hH (.al (cArr 16) (fun _ => 0)) trivial 0 ?_
  clear hH
  rintro _ _ w ⟨g3, rfl, rfl⟩ hH
  refine zn ?_
  refine cxSeq ?_
  refine zr ?_
  refine zv .mv 0 ?_
  refine zn ?_
  refine cxBlock ?_
  have he4 : (cArr 16).enc (upF 0 (mixed f) (fun _ => 0)) = (cArr 16).enc (fun _ => 0) := arr_congr (fun j _ => by rw [upF_zero])
  replace hH : HH w0 [] [[bl g1 61 ((cArr 16).enc f)], [bl g2 61 ((cArr 16).enc (fun _ => 0))], [bl g3 61 ((cArr 16).enc (upF 0 (mixed f) (fun _ => 0)))]] w := by rw [he4]; exact hH
  refine zL1 (fun (i : Nat) => [(7, (.int .i64 (((i) : Nat) : Int))), (3, (.pointer (some ⟨g3, 0, none⟩))), (2, (.pointer (some ⟨g2, 0, none⟩))), (1, (.pointer (some ⟨g1, 0, none⟩)))]) (fun i w => HH w0 [] [[bl g1 61 ((cArr 16).enc f)], [bl g2 61 ((cArr 16).enc (fun _ => 0))], [bl g3 61 ((cArr 16).enc (upF i (mixed f) (fun _ => 0)))]] w ∧ (i ≤ 16)) (fun i => 16 - i) 0 ⟨hH, (Nat.zero_le _)⟩ ?_
  clear hH
  rintro i w ⟨hH, hi⟩
  refine zr ?_
  refine zv (.lt (i < 16)) 0 ?_
  refine zn ?_
  refine cxSeq ?_
  refine zP (fun hc5 => ?_) (fun hc5 => ?_)
  refine cxSkip ?_
  refine qxThen ?_
  refine cxSeq ?_
  refine cxBlock ?_
  refine zr ?_
  refine zv .mv 1 ?_
  refine zv .mv 1 ?_
  refine zn ?_
  refine zr ?_
  refine zv .mv 0 ?_
  refine zv .mv 0 ?_
  refine zv (v := (.int .i64 (((i % 4) : Nat) : Int))) (fun _ _ hF => opRem (z := ((i % 4 : Nat) : Int)) rfl (hF.ev 0 rfl) rfl (by omega) remN) 1 ?_
  refine zv (.sub (((i - i % 4) : Nat) : Int)) 3 ?_
  refine zv .mv 1 ?_
  refine zn ?_
  refine zx ?_
  replace hH := hH.drew
  refine rv 0 .mv 0 ?_
  have hi6 : i - i % 4 < 16 := by omega
  refine rv 1 (.ia 1 16 (i - i % 4) (hi := hi6)) 1 ?_
  refine rld 2 (hH.q 0 rfl) (.ld cByte (f (i - i % 4)) (fun _ hS => ((holds_blk0 hS).elt hi6))) 1 ?_
  refine rv 3 .mv 0 ?_
  refine rv 4 (.add (((i - i % 4) + 1 : Nat) : Int)) 1 ?_
  have hi7 : (i - i % 4) + 1 < 16 := by omega
  refine rv 5 (.ia 1 16 ((i - i % 4) + 1) (hi := hi7)) 1 ?_
  refine rld 6 (hH.q 0 rfl) (.ld cByte (f ((i - i % 4) + 1)) (fun _ hS => ((holds_blk0 hS).elt hi7))) 1 ?_
  refine rv 7 (.xb ((f (i - i % 4)) ^^^ (f ((i - i % 4) + 1))) (u := (f (i - i % 4))) (v := (f ((i - i % 4) + 1)))) 3 ?_
  refine rv 8 .mv 0 ?_
  refine rv 9 (.add (((i - i % 4) + 2 : Nat) : Int)) 1 ?_
  have hi8 : (i - i % 4) + 2 < 16 := by omega
  refine rv 10 (.ia 1 16 ((i - i % 4) + 2) (hi := hi8)) 1 ?_
  refine rld 11 (hH.q 0 rfl) (.ld cByte (f ((i - i % 4) + 2)) (fun _ hS => ((holds_blk0 hS).elt hi8))) 1 ?_
  refine rv 12 (.xb (((f (i - i % 4)) ^^^ (f ((i - i % 4) + 1))) ^^^ (f ((i - i % 4) + 2))) (u := ((f (i - i % 4)) ^^^ (f ((i - i % 4) + 1)))) (v := (f ((i - i % 4) + 2)))) 3 ?_
  refine rv 13 .mv 0 ?_
  refine rv 14 (.add (((i - i % 4) + 3 : Nat) : Int)) 1 ?_
  have hi9 : (i - i % 4) + 3 < 16 := by omega
  refine rv 15 (.ia 1 16 ((i - i % 4) + 3) (hi := hi9)) 1 ?_
  refine rld 16 (hH.q 0 rfl) (.ld cByte (f ((i - i % 4) + 3)) (fun _ hS => ((holds_blk0 hS).elt hi9))) 1 ?_
  refine rv 17 (.xb ((((f (i - i % 4)) ^^^ (f ((i - i % 4) + 1))) ^^^ (f ((i - i % 4) + 2))) ^^^ (f ((i - i % 4) + 3))) (u := (((f (i - i % 4)) ^^^ (f ((i - i % 4) + 1))) ^^^ (f ((i - i % 4) + 2)))) (v := (f ((i - i % 4) + 3)))) 3 ?_
  refine rv 18 .mv 1 ?_
  refine rn ?_
  refine cxRegX mixedOrders (by kernel_rfl) ?_
  replace hH := hH.drew
  refine rv 0 .mv 0 ?_
  refine rv 1 .mv 0 ?_
  have hi10 : i < 16 := by omega
  refine rv 2 (.ia 1 16 i (hi := hi10)) 1 ?_
  refine rld 3 (hH.q 0 rfl) (.ld cByte (f i) (fun _ hS => ((holds_blk0 hS).elt hi10))) 1 ?_
  refine rv 4 .mv 4 ?_
  refine rv 5 (.xb ((f i) ^^^ ((((f (i - i % 4)) ^^^ (f ((i - i % 4) + 1))) ^^^ (f ((i - i % 4) + 2))) ^^^ (f ((i - i % 4) + 3)))) (u := (f i)) (v := ((((f (i - i % 4)) ^^^ (f ((i - i % 4) + 1))) ^^^ (f ((i - i % 4) + 2))) ^^^ (f ((i - i % 4) + 3))))) 3 ?_
  refine rv 6 .mv 0 ?_
  have hi11 : i < 16 := by omega
  refine rv 7 (.ia 1 16 i (hi := hi11)) 1 ?_
  refine rld 8 (hH.q 0 rfl) (.ld cByte (f i) (fun _ hS => ((holds_blk0 hS).elt hi11))) 1 ?_
  refine rv 9 .mv 8 ?_
  refine rv 10 .mv 16 ?_
  refine rv 11 (.add ((i + 1 : Nat) : Int)) 1 ?_
  refine rv 12 (v := (.int .i64 ((((i + 1) % 4) : Nat) : Int))) (fun _ _ hF => opRem (z := (((i + 1) % 4 : Nat) : Int)) rfl (hF.ev 0 rfl) rfl (by omega) remN) 1 ?_
  refine rv 13 (.add (((i - i % 4) + ((i + 1) % 4) : Nat) : Int)) 3 ?_
  have hi12 : (i - i % 4) + ((i + 1) % 4) < 16 := by omega
  refine rv 14 (.ia 1 16 ((i - i % 4) + ((i + 1) % 4)) (hi := hi12)) 1 ?_
  refine rld 15 (hH.q 0 rfl) (.ld cByte (f ((i - i % 4) + ((i + 1) % 4))) (fun _ hS => ((holds_blk0 hS).elt hi12))) 1 ?_
  refine rv 16 (.xb ((f i) ^^^ (f ((i - i % 4) + ((i + 1) % 4)))) (u := (f i)) (v := (f ((i - i % 4) + ((i + 1) % 4))))) 3 ?_
  refine rx1k 17 (rpc 17 Tryz.func96 (dbl_c ((f i) ^^^ (f ((i - i % 4) + ((i + 1) % 4))))) trivial hH 1 (pgo [16] (pgo [16] (.keep (.nil _ [])))) ?_)
  clear hH
  intro w hH
  refine ⟨pcons (hH.blk 0 rfl) pnil, ?_⟩
  refine rv 18 (.xb (((f i) ^^^ ((((f (i - i % 4)) ^^^ (f ((i - i % 4) + 1))) ^^^ (f ((i - i % 4) + 2))) ^^^ (f ((i - i % 4) + 3)))) ^^^ (dbl ((f i) ^^^ (f ((i - i % 4) + ((i + 1) % 4)))))) (u := ((f i) ^^^ ((((f (i - i % 4)) ^^^ (f ((i - i % 4) + 1))) ^^^ (f ((i - i % 4) + 2))) ^^^ (f ((i - i % 4) + 3))))) (v := (dbl ((f i) ^^^ (f ((i - i % 4) + ((i + 1) % 4))))))) 3 ?_
  have hi13 : i < 16 := by omega
  refine rv 19 (.ia 1 16 i (hi := hi13)) 2 ?_
  refine rx1k 20 ?_
  refine re0 20 2 hH rfl (.st cByte (((f i) ^^^ ((((f (i - i % 4)) ^^^ (f ((i - i % 4) + 1))) ^^^ (f ((i - i % 4) + 2))) ^^^ (f ((i - i % 4) + 3)))) ^^^ (dbl ((f i) ^^^ (f ((i - i % 4) + ((i + 1) % 4)))))) (room_1 (S := sBy) (C := (cArr 16)) rfl hi13) (arr_set0 (upF i (mixed f) (fun _ => 0)) (((f i) ^^^ ((((f (i - i % 4)) ^^^ (f ((i - i % 4) + 1))) ^^^ (f ((i - i % 4) + 2))) ^^^ (f ((i - i % 4) + 3)))) ^^^ (dbl ((f i) ^^^ (f ((i - i % 4) + ((i + 1) % 4)))))) hi13)) trivial (pgo [] (.nil _ [])) ?_
  clear hH
  rintro _ _ w rfl hH
  refine ⟨pnil, ?_⟩
  refine rxEnd (by kernel_rfl) ?_
  refine qxInN ?_
  refine qxThen ?_
  refine cxReg ?_
  refine zv (.add ((i + 1 : Nat) : Int)) 7 ?_
  refine zv .mv 1 ?_
  refine pxEnd ?_
  have he14 : (cArr 16).enc (upF (i + 1) (mixed f) (fun _ => 0)) = (cArr 16).enc (stF (upF i (mixed f) (fun _ => 0)) i (((f i) ^^^ ((((f (i - i % 4)) ^^^ (f ((i - i % 4) + 1))) ^^^ (f ((i - i % 4) + 2))) ^^^ (f ((i - i % 4) + 3)))) ^^^ (dbl ((f i) ^^^ (f ((i - i % 4) + ((i + 1) % 4))))))) := arr_congr (fun j _ => (congrFun (upF_step i (mixed f) (fun _ => 0) (rfl)) j).symm)
  replace hH : HH w0 [] [[bl g1 61 ((cArr 16).enc f)], [bl g2 61 ((cArr 16).enc (fun _ => 0))], [bl g3 61 ((cArr 16).enc (upF (i + 1) (mixed f) (fun _ => 0)))]] w := by rw [he14]; exact hH
  exact zR1 (i + 1) ⟨hH, (by omega)⟩ (by omega)
  refine cxExit ?_
  refine qxThenE ?_
  refine qxThenE ?_
  refine qxInE ?_
  refine qxThen ?_
  obtain rfl : i = 16 := by omega
  have he15 : (cArr 16).enc (mixed f) = (cArr 16).enc (upF 16 (mixed f) (fun _ => 0)) := arr_congr (fun j hj => (upF_lt _ _ hj).symm)
  replace hH : HH w0 [] [[bl g1 61 ((cArr 16).enc f)], [bl g2 61 ((cArr 16).enc (fun _ => 0))], [bl g3 61 ((cArr 16).enc (mixed f))]] w := by rw [he15]; exact hH
  refine zr ?_
  refine zs (hH.q 2 rfl) (.ld (cArr 16) (mixed f) (fun _ hS => (holds_blk0 hS))) 23 ?_
  refine ze0 1 hH rfl (.sw (cArr 16) (fun _ => 0) (mixed f)) trivial ?_
  clear hH
  rintro _ _ w rfl hH
  refine zn ?_
  refine cxRet ?_
  refine qxRetC 1 (hH.blk 1 rfl) rfl rfl (by kernel_rfl) (Cod.size _ _) (by kernel_rfl) ?_
  exact ⟨rfl, HH.toBelow hH⟩

set_option maxHeartbeats 8000000 in
theorem unmixed_c (f : Nat → UInt8) : Pure Tryz.prog 106 #[((cArr 16).val f)] (fun _ => True) ((cArr 16).val (unmixed f)) := by
  refine pure_of (fn := Tryz.f106) Tryz.func106 rfl Tryz.ntmps106 (Nat.le_of_ble_eq_true rfl) rfl ?_
  intro w0 hH hR
  refine zr ?_
  refine zm hH (.bx (cArr 16) f) trivial 1 ?_
  clear hH
  rintro _ _ w ⟨g1, rfl, rfl⟩ hH
  refine zm hH (.al (cArr 16) (fun _ => 0)) trivial 0 ?_
  clear hH
  rintro _ _ w ⟨g2, rfl, rfl⟩ hH
  refine zn ?_
  refine zr ?_
  refine zm hH (.al (cArr 16) (fun _ => 0)) trivial 0 ?_
  clear hH
  rintro _ _ w ⟨g3, rfl, rfl⟩ hH
  refine zn ?_
  refine cxSeq ?_
  refine zr ?_
  refine zv .mv 0 ?_
  refine zn ?_
  refine cxBlock ?_
  have he4 : (cArr 16).enc (upF 0 (premixed f) (fun _ => 0)) = (cArr 16).enc (fun _ => 0) := arr_congr (fun j _ => by rw [upF_zero])
  replace hH : HH w0 [] [[bl g1 61 ((cArr 16).enc f)], [bl g2 61 ((cArr 16).enc (fun _ => 0))], [bl g3 61 ((cArr 16).enc (upF 0 (premixed f) (fun _ => 0)))]] w := by rw [he4]; exact hH
  refine zL1 (fun (i : Nat) => [(5, (.int .i64 (((i) : Nat) : Int))), (3, (.pointer (some ⟨g3, 0, none⟩))), (2, (.pointer (some ⟨g2, 0, none⟩))), (1, (.pointer (some ⟨g1, 0, none⟩)))]) (fun i w => HH w0 [] [[bl g1 61 ((cArr 16).enc f)], [bl g2 61 ((cArr 16).enc (fun _ => 0))], [bl g3 61 ((cArr 16).enc (upF i (premixed f) (fun _ => 0)))]] w ∧ (i ≤ 16)) (fun i => 16 - i) 0 ⟨hH, (Nat.zero_le _)⟩ ?_
  clear hH
  rintro i w ⟨hH, hi⟩
  refine zr ?_
  refine zv (.lt (i < 16)) 0 ?_
  refine zn ?_
  refine cxSeq ?_
  refine zP (fun hc5 => ?_) (fun hc5 => ?_)
  refine cxSkip ?_
  refine qxThen ?_
  refine cxSeq ?_
  refine cxBlock ?_
  refine zr ?_
  refine zv .mv 1 ?_
  refine zv .mv 1 ?_
  refine zn ?_
  refine cxRegX mixedOrders (by kernel_rfl) ?_
  replace hH := hH.drew
  refine rv 0 .mv 0 ?_
  refine rv 1 .mv 0 ?_
  have hi6 : i < 16 := by omega
  refine rv 2 (.ia 1 16 i (hi := hi6)) 1 ?_
  refine rld 3 (hH.q 0 rfl) (.ld cByte (f i) (fun _ hS => ((holds_blk0 hS).elt hi6))) 1 ?_
  refine rv 4 .mv 0 ?_
  have hi7 : i < 16 := by omega
  refine rv 5 (.ia 1 16 i (hi := hi7)) 1 ?_
  refine rld 6 (hH.q 0 rfl) (.ld cByte (f i) (fun _ hS => ((holds_blk0 hS).elt hi7))) 1 ?_
  refine rv 7 .mv 0 ?_
  refine rv 8 .mv 0 ?_
  refine rv 9 (v := (.int .i64 (((i % 4) : Nat) : Int))) (fun _ _ hF => opRem (z := ((i % 4 : Nat) : Int)) rfl (hF.ev 0 rfl) rfl (by omega) remN) 1 ?_
  refine rv 10 (.sub (((i - i % 4) : Nat) : Int)) 3 ?_
  refine rv 11 .mv 16 ?_
  refine rv 12 (.add ((i + 2 : Nat) : Int)) 1 ?_
  refine rv 13 (v := (.int .i64 ((((i + 2) % 4) : Nat) : Int))) (fun _ _ hF => opRem (z := (((i + 2) % 4 : Nat) : Int)) rfl (hF.ev 0 rfl) rfl (by omega) remN) 1 ?_
  refine rv 14 (.add (((i - i % 4) + ((i + 2) % 4) : Nat) : Int)) 3 ?_
  have hi8 : (i - i % 4) + ((i + 2) % 4) < 16 := by omega
  refine rv 15 (.ia 1 16 ((i - i % 4) + ((i + 2) % 4)) (hi := hi8)) 1 ?_
  refine rld 16 (hH.q 0 rfl) (.ld cByte (f ((i - i % 4) + ((i + 2) % 4))) (fun _ hS => ((holds_blk0 hS).elt hi8))) 1 ?_
  refine rv 17 (.xb ((f i) ^^^ (f ((i - i % 4) + ((i + 2) % 4)))) (u := (f i)) (v := (f ((i - i % 4) + ((i + 2) % 4))))) 3 ?_
  refine rx1k 18 (rpc 18 Tryz.func96 (dbl_c ((f i) ^^^ (f ((i - i % 4) + ((i + 2) % 4))))) trivial hH 1 (pgo [17] (pgo [17] (.keep (.nil _ [])))) ?_)
  clear hH
  intro w hH
  refine ⟨pcons (hH.blk 0 rfl) pnil, ?_⟩
  refine rx1k 19 (rpc 19 Tryz.func96 (dbl_c (dbl ((f i) ^^^ (f ((i - i % 4) + ((i + 2) % 4)))))) trivial hH 1 (.keep (.nil _ [])) ?_)
  clear hH
  intro w hH
  refine ⟨pcons (hH.blk 0 rfl) pnil, ?_⟩
  refine rv 20 (.xb ((f i) ^^^ (dbl (dbl ((f i) ^^^ (f ((i - i % 4) + ((i + 2) % 4))))))) (u := (f i)) (v := (dbl (dbl ((f i) ^^^ (f ((i - i % 4) + ((i + 2) % 4)))))))) 3 ?_
  have hi9 : i < 16 := by omega
  refine rv 21 (.ia 1 16 i (hi := hi9)) 2 ?_
  refine rx1k 22 ?_
  refine re0 22 2 hH rfl (.st cByte ((f i) ^^^ (dbl (dbl ((f i) ^^^ (f ((i - i % 4) + ((i + 2) % 4))))))) (room_1 (S := sBy) (C := (cArr 16)) rfl hi9) (arr_set0 (upF i (premixed f) (fun _ => 0)) ((f i) ^^^ (dbl (dbl ((f i) ^^^ (f ((i - i % 4) + ((i + 2) % 4))))))) hi9)) trivial (pgo [] (.nil _ [])) ?_
  clear hH
  rintro _ _ w rfl hH
  refine ⟨pnil, ?_⟩
  refine rxEnd (by kernel_rfl) ?_
  refine qxInN ?_
  refine qxThen ?_
  refine cxReg ?_
  refine zv (.add ((i + 1 : Nat) : Int)) 7 ?_
  refine zv .mv 1 ?_
  refine pxEnd ?_
  have he10 : (cArr 16).enc (upF (i + 1) (premixed f) (fun _ => 0)) = (cArr 16).enc (stF (upF i (premixed f) (fun _ => 0)) i ((f i) ^^^ (dbl (dbl ((f i) ^^^ (f ((i - i % 4) + ((i + 2) % 4)))))))) := arr_congr (fun j _ => (congrFun (upF_step i (premixed f) (fun _ => 0) (rfl)) j).symm)
  replace hH : HH w0 [] [[bl g1 61 ((cArr 16).enc f)], [bl g2 61 ((cArr 16).enc (fun _ => 0))], [bl g3 61 ((cArr 16).enc (upF (i + 1) (premixed f) (fun _ => 0)))]] w := by rw [he10]; exact hH
  exact zR1 (i + 1) ⟨hH, (by omega)⟩ (by omega)
  refine cxExit ?_
  refine qxThenE ?_
  refine qxThenE ?_
  refine qxInE ?_
  refine qxThen ?_
  obtain rfl : i = 16 := by omega
  have he11 : (cArr 16).enc (premixed f) = (cArr 16).enc (upF 16 (premixed f) (fun _ => 0)) := arr_congr (fun j hj => (upF_lt _ _ hj).symm)
  replace hH : HH w0 [] [[bl g1 61 ((cArr 16).enc f)], [bl g2 61 ((cArr 16).enc (fun _ => 0))], [bl g3 61 ((cArr 16).enc (premixed f))]] w := by rw [he11]; exact hH
  refine zr ?_
  refine zs (hH.q 2 rfl) (.ld (cArr 16) (premixed f) (fun _ hS => (holds_blk0 hS))) 23 ?_
  refine zc Tryz.func93 (mixed_c (premixed f)) trivial hH 1 ?_
  clear hH
  intro w hH
  refine ze0 1 hH rfl (.sw (cArr 16) (fun _ => 0) (mixed (premixed f))) trivial ?_
  clear hH
  rintro _ _ w rfl hH
  refine zn ?_
  refine cxRet ?_
  refine qxRetC 1 (hH.blk 1 rfl) rfl rfl (by kernel_rfl) (Cod.size _ _) (by kernel_rfl) ?_
  exact ⟨rfl, HH.toBelow hH⟩

set_option maxHeartbeats 8000000 in
theorem back_c  : Pure Tryz.prog 97 #[] (fun w => w.heap[2]? = some (.cells ((cArr 256).enc boxF) 105 (0, 0))) ((cArr 256).val (bk boxF 256)) := by
  refine pure_of (fn := Tryz.f97) Tryz.func97 rfl Tryz.ntmps97 (Nat.le_of_ble_eq_true rfl) rfl ?_
  intro w0 hH hR
  refine zr ?_
  refine zm hH (.al (cArr 256) (fun _ => 0)) trivial 0 ?_
  clear hH
  rintro _ _ w ⟨g1, rfl, rfl⟩ hH
  refine zn ?_
  refine zr ?_
  refine zm hH (.al (cArr 256) (fun _ => 0)) trivial 0 ?_
  clear hH
  rintro _ _ w ⟨g2, rfl, rfl⟩ hH
  refine zn ?_
  refine cxSeq ?_
  refine zr ?_
  refine zs (hH.ob hR) (.ld (cArr 256) boxF (fun _ hS => (holds_blk0 hS))) 0 ?_
  refine zv .mv 0 ?_
  refine zn ?_
  refine cxBlock ?_
  have he3 : (cArr 256).enc (bk boxF 0) = (cArr 256).enc (fun _ => 0) := arr_congr (fun j _ => rfl)
  replace hH : HH w0 [] [[bl g1 105 ((cArr 256).enc (fun _ => 0))], [bl g2 105 ((cArr 256).enc (bk boxF 0))]] w := by rw [he3]; exact hH
  refine zL1 (fun (i : Nat) => [(5, (.int .i64 (((i) : Nat) : Int))), (4, ((cArr 256).val boxF)), (1, (.pointer (some ⟨g2, 0, none⟩))), (0, (.pointer (some ⟨g1, 0, none⟩)))]) (fun i w => HH w0 [] [[bl g1 105 ((cArr 256).enc (fun _ => 0))], [bl g2 105 ((cArr 256).enc (bk boxF i))]] w ∧ (i ≤ 256)) (fun i => 256 - i) 0 ⟨hH, (Nat.zero_le _)⟩ ?_
  clear hH
  rintro i w ⟨hH, hi⟩
  refine zr ?_
  refine zv (.lt (i < 256)) 0 ?_
  refine zn ?_
  refine cxSeq ?_
  refine zP (fun hc4 => ?_) (fun hc4 => ?_)
  refine cxSkip ?_
  refine qxThen ?_
  refine cxSeq ?_
  refine cxBlock ?_
  refine zr ?_
  refine zv .mv 1 ?_
  have hi5 : i < 256 := by omega
  refine zv (v := (.int .u8 ((((boxF i).toNat) : Nat) : Int))) (fun _ _ hF => opIdxA (S := sBy) (e := 5) (n := 256) (i := i) (f := boxF) rfl (by kernel_rfl) (by kernel_rfl) (hF.ev 2 rfl) (hF.ev 1 rfl) rfl hi5) 0 ?_
  refine zv .mv 2 ?_
  refine zv .mv 2 ?_
  refine zn ?_
  refine cxReg ?_
  refine zv .mv 1 ?_
  refine zv .mv 2 ?_
  refine zv .cb 1 ?_
  have hi6 : (boxF i).toNat < 256 := UInt8.toNat_lt _
  refine zv (.ia 1 256 ((boxF i).toNat) (hi := hi6)) 2 ?_
  refine ze0 1 hH rfl (.st cByte (UInt8.ofNat i) (room_1 (S := sBy) (C := (cArr 256)) rfl hi6) (arr_set0 (bk boxF i) (UInt8.ofNat i) hi6)) trivial ?_
  clear hH
  rintro _ _ w rfl hH
  refine pxEnd ?_
  refine qxInN ?_
  refine qxThen ?_
  refine cxReg ?_
  refine zv (.add ((i + 1 : Nat) : Int)) 7 ?_
  refine zv .mv 1 ?_
  refine pxEnd ?_
  have he7 : (cArr 256).enc (bk boxF (i + 1)) = (cArr 256).enc (stF (bk boxF i) ((boxF i).toNat) (UInt8.ofNat i)) := arr_congr (fun j _ => rfl)
  replace hH : HH w0 [] [[bl g1 105 ((cArr 256).enc (fun _ => 0))], [bl g2 105 ((cArr 256).enc (bk boxF (i + 1)))]] w := by rw [he7]; exact hH
  exact zR1 (i + 1) ⟨hH, (by omega)⟩ (by omega)
  refine cxExit ?_
  refine qxThenE ?_
  refine qxThenE ?_
  refine qxInE ?_
  refine qxThen ?_
  obtain rfl : i = 256 := by omega
  refine zr ?_
  refine zs (hH.q 1 rfl) (.ld (cArr 256) (bk boxF 256) (fun _ hS => (holds_blk0 hS))) 15 ?_
  refine ze0 0 hH rfl (.sw (cArr 256) (fun _ => 0) (bk boxF 256)) trivial ?_
  clear hH
  rintro _ _ w rfl hH
  refine zn ?_
  refine cxRet ?_
  refine qxRetC 1 (hH.blk 0 rfl) rfl rfl (by kernel_rfl) (Cod.size _ _) (by kernel_rfl) ?_
  exact ⟨rfl, HH.toBelow hH⟩
end Go.Proofs.YtfloiekaiiapnaaGreatDoor

namespace Go.Proofs.YtfloiekaiiapnaaGreatDoor
open Go Go.RowKit
set_option maxRecDepth 100000

def pk4 (a b c d : UInt8) : Nat → UInt8 := fun i => if i = 0 then a else if i = 1 then b else if i = 2 then c else d
/-- The bytes of a known list. -/
theorem set_upto {W : Nat → UInt8} {a : List UInt8} {m : Nat} {v : UInt8} (h : ∀ j, j < m → a[j]? = some (W j)) (hm : m < a.length) (hv : v = W m) : ∀ j, j < m + 1 → (a.set m v)[j]? = some (W j) := fun j hj => by
  rw [List.getElem?_set]
  by_cases he : m = j
  · subst he; rw [if_pos rfl, if_pos hm, hv]
  · rw [if_neg he]; exact h j (by omega)
theorem cut_known {W : Nat → UInt8} {a : List UInt8} {m k j : Nat} (h : ∀ j, j < m → a[j]? = some (W j)) (hk : k + j < m) : cutF a k j = W (k + j) := by
  unfold cutF
  rw [List.getD_eq_getElem?_getD, h _ hk]
  rfl
theorem lst_of_known {W : Nat → UInt8} {a : List UInt8} {m : Nat} (h : ∀ j, j < m → a[j]? = some (W j)) (hm : a.length = m) : a = lst m W := by
  apply List.ext_getElem?
  intro j
  by_cases hj : j < m
  · rw [h j hj, lst_get hj]
  · rw [List.getElem?_eq_none (by omega), List.getElem?_eq_none (by rw [lst_len]; omega)]
theorem setG {α : Type} {F : Nat → α} {a : List α} {m : Nat} {v : α} (h : ∀ j, j < m → a[j]? = some (F j)) (hm : m < a.length) (hv : v = F m) : ∀ j, j < m + 1 → (a.set m v)[j]? = some (F j) := fun j hj => by
  rw [List.getElem?_set]
  by_cases he : m = j
  · subst he; rw [if_pos rfl, if_pos hm, hv]
  · rw [if_neg he]; exact h j (by omega)
theorem map_of_known {α : Type} {F : Nat → α} {a : List α} {m : Nat} (h : ∀ j, j < m → a[j]? = some (F j)) (hm : a.length = m) : a = (List.range m).map F := by
  apply List.ext_getElem?
  intro j
  by_cases hj : j < m
  · rw [h j hj]; simp [hj]
  · rw [List.getElem?_eq_none (by omega), List.getElem?_eq_none (by simp; omega)]
/-- The keys of rounds: the bytes' places 16 by 16. -/
def aeK (l : List UInt8) : List (Nat → UInt8) := (List.range (l.length / 4 + 7)).map fun i => cutF (lst (16 * (l.length / 4 + 7)) (aeW l)) (16 * i)
theorem aeK_len (l : List UInt8) : (aeK l).length = l.length / 4 + 7 := by unfold aeK; simp
theorem aeK_get (l : List UInt8) {i : Nat} (h : i < l.length / 4 + 7) : (aeK l)[i]? = some (cutF (lst (16 * (l.length / 4 + 7)) (aeW l)) (16 * i)) := by unfold aeK; simp [h]
theorem aeK_rk (l : List UInt8) {i : Nat} (h : i < l.length / 4 + 7) : E16 (cutF (lst (16 * (l.length / 4 + 7)) (aeW l)) (16 * i)) (rk (aeW l) i) := fun j hj => by
  rw [cut_known (m := 16 * (l.length / 4 + 7)) (W := aeW l) (fun j hj => lst_get hj) (by omega)]
  rfl
theorem rc_next {d nk : Nat} (h : nk = 4 ∨ nk = 8) (hA : (d + nk) % nk = 0) : dbl (rc ((d + (nk - 1)) / nk)) = rc ((d + 1 + (nk - 1)) / nk) := by
  have e : (d + 1 + (nk - 1)) / nk = (d + (nk - 1)) / nk + 1 := by rcases h with rfl | rfl <;> omega
  rw [e]
  rfl
theorem rc_same {d nk : Nat} (h : nk = 4 ∨ nk = 8) (hA : ¬ (d + nk) % nk = 0) : rc ((d + (nk - 1)) / nk) = rc ((d + 1 + (nk - 1)) / nk) := by
  have e : (d + 1 + (nk - 1)) / nk = (d + (nk - 1)) / nk := by rcases h with rfl | rfl <;> omega
  rw [e]
theorem at_rem {n nk d : Nat} (h : n = 4 * nk) : (n + 4 * d) % n = 4 * ((d + nk) % nk) := by
  subst h
  rw [← Nat.mul_add, Nat.mul_mod_mul_left, Nat.add_comm]
section
variable {l a : List UInt8} {nk d : Nat} {c : UInt8}
theorem keyX (hnk : l.length = 4 * nk) (h4 : nk = 4 ∨ nk = 8) (hW : ∀ j, j < l.length + 4 * d → a[j]? = some (aeW l j)) {j : Nat} (hj : j < 4) : cutF a (l.length + 4 * d - 4) j = aeW l (4 * d + (4 * nk - 4) + j) := by
  rw [cut_known hW (by omega)]
  congr 1
  omega
theorem keyS (hnk : l.length = 4 * nk) (h4 : nk = 4 ∨ nk = 8) : Sched boxF nk (cutF l 0) (aeW l) := by
  have := aeW_sched l (by omega)
  rwa [show l.length / 4 = nk by omega] at this
theorem keyA (hnk : l.length = 4 * nk) (h4 : nk = 4 ∨ nk = 8) (hd : d < 3 * nk + 28) (hW : ∀ j, j < l.length + 4 * d → a[j]? = some (aeW l j)) (hA : (d + nk) % nk = 0) (hc : c = rc ((d + (nk - 1)) / nk)) (k : Nat) (hk : k < 4) :
    aeW l (l.length + 4 * d + k) = aeW l (4 * d + k) ^^^ pk4 (boxF (cutF a (l.length + 4 * d - 4) 1).toNat ^^^ c) (boxF (cutF a (l.length + 4 * d - 4) 2).toNat) (boxF (cutF a (l.length + 4 * d - 4) 3).toNat) (boxF (cutF a (l.length + 4 * d - 4) 0).toNat) k := by
  have h := sched_A (by omega) (keyS hnk h4) d _ hd rfl hA k hk
  rw [show 4 * d + (4 * nk - 4) + 4 + k - 4 * nk = 4 * d + k by omega, show 4 * d + (4 * nk - 4) + 4 + k = l.length + 4 * d + k by omega] at h
  rw [keyX hnk h4 hW (j := 0) (by decide), keyX hnk h4 hW (j := 1) (by decide), keyX hnk h4 hW (j := 2) (by decide), keyX hnk h4 hW (j := 3) (by decide), hc, h]
  unfold pk4 xr
  rcases (by omega : k = 0 ∨ k = 1 ∨ k = 2 ∨ k = 3) with rfl | rfl | rfl | rfl <;> simp
theorem keyC (hnk : l.length = 4 * nk) (h4 : nk = 4 ∨ nk = 8) (hd : d < 3 * nk + 28) (hW : ∀ j, j < l.length + 4 * d → a[j]? = some (aeW l j)) (hA : ¬ (d + nk) % nk = 0) (hC : (d + nk) % nk = 4) (k : Nat) (hk : k < 4) :
    aeW l (l.length + 4 * d + k) = aeW l (4 * d + k) ^^^ pk4 (boxF (cutF a (l.length + 4 * d - 4) 0).toNat) (boxF (cutF a (l.length + 4 * d - 4) 1).toNat) (boxF (cutF a (l.length + 4 * d - 4) 2).toNat) (boxF (cutF a (l.length + 4 * d - 4) 3).toNat) k := by
  have h8 : nk = 8 ∧ (d + nk) % nk = 4 := ⟨by rcases h4 with rfl | rfl <;> omega, hC⟩
  have h := sched_C (by omega) (keyS hnk h4) d _ hd rfl hA h8 k hk
  rw [show 4 * d + (4 * nk - 4) + 4 + k - 4 * nk = 4 * d + k by omega, show 4 * d + (4 * nk - 4) + 4 + k = l.length + 4 * d + k by omega] at h
  rw [keyX hnk h4 hW (j := 0) (by decide), keyX hnk h4 hW (j := 1) (by decide), keyX hnk h4 hW (j := 2) (by decide), keyX hnk h4 hW (j := 3) (by decide), h]
  unfold pk4 xr
  rcases (by omega : k = 0 ∨ k = 1 ∨ k = 2 ∨ k = 3) with rfl | rfl | rfl | rfl <;> simp
theorem keyB (hnk : l.length = 4 * nk) (h4 : nk = 4 ∨ nk = 8) (hd : d < 3 * nk + 28) (hW : ∀ j, j < l.length + 4 * d → a[j]? = some (aeW l j)) (hA : ¬ (d + nk) % nk = 0) (hC : ¬ (d + nk) % nk = 4) (k : Nat) (hk : k < 4) :
    aeW l (l.length + 4 * d + k) = aeW l (4 * d + k) ^^^ cutF a (l.length + 4 * d - 4) k := by
  have h := sched_B (by omega) (keyS hnk h4) d _ hd rfl hA (fun h => hC h.2) k hk
  rw [show 4 * d + (4 * nk - 4) + 4 + k - 4 * nk = 4 * d + k by omega, show 4 * d + (4 * nk - 4) + 4 + k = l.length + 4 * d + k by omega] at h
  rw [keyX hnk h4 hW hk, h]
  rfl
end

theorem known0 (l : List UInt8) {nk j : Nat} (hnk : l.length = 4 * nk) (h4 : nk = 4 ∨ nk = 8) (hj : j < l.length) : l[j]? = some (aeW l j) := by
  have h := (keyS hnk h4).1 j (by omega)
  rw [h]
  unfold cutF
  rw [Nat.zero_add, List.getD_eq_getElem?_getD, List.getElem?_eq_getElem hj]
  rfl

set_option maxHeartbeats 8000000 in
theorem roundKeys_c (A : Option Addr) (z : Nat) (l : List UInt8) (hk : l.length = 16 ∨ l.length = 32) : Does Tryz.prog 82 #[(.slice A l.length z)] [] (fun w => w.heap[2]? = some (.cells ((cArr 256).enc boxF) 105 (0, 0)) ∧ Vu cByte w A l.length z l) (fun v E' => OwnT (cArr 16) 61 v (aeK l) E') := by
  refine does_of (fn := Tryz.f82) Tryz.func82 rfl Tryz.ntmps82 (Nat.le_of_ble_eq_true rfl) rfl ?_
  intro w0 hH hR
  replace hH : HH w0 [] [] w0 := hH.only [false]
  obtain ⟨nk, hnk, h4⟩ : ∃ nk, l.length = 4 * nk ∧ (nk = 4 ∨ nk = 8) := ⟨l.length / 4, by omega, by omega⟩
  refine zr ?_
  refine zv .mv 0 ?_
  refine zn ?_
  refine zr ?_
  refine zv .mv 1 ?_
  refine zv .len 1 ?_
  refine zv (v := (.int .i64 (((l.length / 4) : Nat) : Int))) (fun _ _ hF => opQuo (z := ((l.length / 4 : Nat) : Int)) rfl (hF.ev 0 rfl) rfl (by omega) (wI quoN (by omega) (by omega))) 1 ?_
  refine zv (.add (((l.length / 4) + 7 : Nat) : Int)) 1 ?_
  refine zm hH (fun _ hF => smMake (e := 61) (n := (l.length / 4) + 7) (sz := 16) (by_ := 16) (z := ((cArr 16).val (fun _ => 0))) (cs := madeCells ((cArr 16).enc (fun _ => 0)) (((l.length / 4) + 7) * 16)) rfl (by kernel_rfl) (by kernel_rfl) (hF.ev 0 rfl) (hF.ev 0 rfl) rfl rfl (by omega) (by omega) rfl) trivial 1 ?_
  clear hH
  rintro _ _ w ⟨g1, rfl, rfl⟩ hH
  refine zv .mv 1 ?_
  refine zn ?_
  refine zr ?_
  refine zv .mv 0 ?_
  refine zv .len 1 ?_
  refine zv (.mul ((16 * ((l.length / 4) + 7) : Nat) : Int)) 1 ?_
  refine zm hH (fun _ hF => smMake (e := 5) (n := 16 * ((l.length / 4) + 7)) (sz := 1) (by_ := 1) (z := (.int .u8 0)) (cs := madeCells (cByte.enc 0) ((16 * ((l.length / 4) + 7)) * 1)) rfl (by kernel_rfl) (by kernel_rfl) (hF.ev 0 rfl) (hF.ev 0 rfl) rfl rfl (by omega) (by omega) rfl) trivial 1 ?_
  clear hH
  rintro _ _ w ⟨g2, rfl, rfl⟩ hH
  refine zv .mv 1 ?_
  refine zn ?_
  refine zr ?_
  refine zv .mv 0 ?_
  refine zv .mv 0 ?_
  obtain ⟨cur4, hcs5, hB3⟩ : ∃ cs, putL (madeCells (cByte.enc 0) ((16 * ((l.length / 4) + 7)) * 1)) (0) (flat cByte l) = cs ∧ Bk cByte (16 * ((l.length / 4) + 7)) cs ((List.replicate (16 * ((l.length / 4) + 7)) 0).take 0 ++ (l ++ (List.replicate (16 * ((l.length / 4) + 7)) 0).drop (0 + l.length))) := ⟨_, rfl, (Bk.make (C := cByte) 0 (16 * ((l.length / 4) + 7)) (ltb rfl) (by unfold maxLen; omega)).copy 0 l (by rw [List.length_replicate]; omega)⟩
  refine ze 1 hH rfl (fun _ hF => smCopyT (C := cByte) (m := l) (e := 5) rfl (by kernel_rfl) (by kernel_rfl) (ltb rfl) (hF.ev 1 rfl) (hF.ev 0 rfl) (by omega) rfl (by rw [size_madeCells]; show 0 + l.length * 1 ≤ (16 * (l.length / 4 + 7)) * 1; omega) hcs5) (hH.vu hR.2 (by decide) (Off.nil _ _)) 3 ?_
  clear hH
  rintro _ _ w ⟨rfl, rfl⟩ hH
  refine zn ?_
  refine zr ?_
  refine zv .mv 1 ?_
  refine zn ?_
  refine cxSeq ?_
  refine zr ?_
  refine zv .mv 0 ?_
  refine zv .len 1 ?_
  refine zv .mv 1 ?_
  refine zn ?_
  refine cxBlock ?_
  refine zL4 (fun (d : Nat) (c : UInt8) (_ : Array Value) (_ : List UInt8) => [(6, (.int .i64 (((l.length + 4 * d) : Nat) : Int))), (5, (.int .u8 (((c.toNat) : Nat) : Int))), (4, (.slice (some ⟨g2, 0, none⟩) (16 * ((l.length / 4) + 7)) (16 * ((l.length / 4) + 7)))), (3, (.slice (some ⟨g1, 0, none⟩) ((l.length / 4) + 7) ((l.length / 4) + 7))), (0, (.slice A l.length z))]) (fun d c cs a w => HH w0 [] [[bl g1 61 (madeCells ((cArr 16).enc (fun _ => 0)) (((l.length / 4) + 7) * 16))], [bl g2 5 cs]] w ∧ (d ≤ 3 * nk + 28) ∧ (c = rc ((d + (nk - 1)) / nk)) ∧ (a.length = (16 * (l.length / 4 + 7))) ∧ (∀ j, j < l.length + 4 * d → a[j]? = some (aeW l j)) ∧ (Bk cByte (16 * (l.length / 4 + 7)) cs a)) (fun d _ _ _ => 3 * nk + 28 - d) 0 1 cur4 ((List.replicate (16 * ((l.length / 4) + 7)) 0).take 0 ++ (l ++ (List.replicate (16 * ((l.length / 4) + 7)) 0).drop (0 + l.length))) ⟨hH, (by omega), (by rw [Nat.zero_add, Nat.div_eq_of_lt (by omega)]; rfl), (by simp; omega), (fun j hj => by rw [List.take_zero, List.nil_append, List.getElem?_append_left (by omega), known0 l hnk h4 (by omega)]), hB3⟩ ?_
  clear hH
  rintro d c cs a w ⟨hH, hd, hcc, hal, haW, hB⟩
  refine cxSeq ?_
  refine zr ?_
  refine zv .mv 0 ?_
  refine zv .mv 0 ?_
  refine zv .len 1 ?_
  refine zv (.lt (l.length + 4 * d < 16 * ((l.length / 4) + 7))) 3 ?_
  refine zn ?_
  refine zP (fun hc6 => ?_) (fun hc6 => ?_)
  refine cxSkip ?_
  refine qxThen ?_
  refine cxSeq ?_
  refine cxBlock ?_
  refine zr ?_
  refine zv .mv 1 ?_
  refine zv .mv 0 ?_
  refine zv (.sub (((l.length + 4 * d - 4) : Nat) : Int)) 1 ?_
  refine zv (v := (.slice (some ⟨g2, 0 + (l.length + 4 * d - 4) * 1, none⟩) ((16 * ((l.length / 4) + 7)) - (l.length + 4 * d - 4)) ((16 * ((l.length / 4) + 7)) - (l.length + 4 * d - 4)))) (fun _ _ hF => opSlcL (k := l.length + 4 * d - 4) (e := 5) (sz := 1) rfl (by kernel_rfl) (by kernel_rfl) (hF.ev 1 rfl) (hF.ev 0 rfl) rfl (by omega) (by omega)) 3 ?_
  refine zv (v := (.pointer (some ⟨g2, 0 + (l.length + 4 * d - 4) * 1, none⟩))) (fun _ _ hF => opToArray (m := 4) (e := 5) rfl (by kernel_rfl) (hF.ev 0 rfl) (by omega)) 1 ?_
  refine zs (hH.q 1 rfl) (.ld (cArr 4) (cutF a (l.length + 4 * d - 4)) (fun _ hS => ((hB.holdsL hS).arr (l.length + 4 * d - 4) 4 (by first | omega | (rw [lst_len]; omega) | (simp only [List.length_drop, List.length_take, lst_len]; omega) | (simp only [List.length_drop, List.length_take]; omega))))) 1 ?_
  refine zm hH (.al (cArr 4) (fun _ => 0)) trivial 0 ?_
  clear hH
  rintro _ _ w ⟨g7, rfl, rfl⟩ hH
  refine ze0 2 hH rfl (.sw (cArr 4) (fun _ => 0) (cutF a (l.length + 4 * d - 4))) trivial ?_
  clear hH
  rintro _ _ w rfl hH
  refine zn ?_
  refine cxSeq ?_
  refine zr ?_
  refine zv .mv 2 ?_
  refine zv .mv 0 ?_
  refine zv .len 1 ?_
  refine zv (v := (.int .i64 (((4 * ((d + nk) % nk)) : Nat) : Int))) (fun _ _ hF => opRem rfl (hF.ev 1 rfl) (hF.ev 0 rfl) (by omega) (congrArg (fun q : Nat => (q : Int)) (at_rem hnk))) 3 ?_
  refine zn ?_
  refine cxBlock ?_
  refine zr ?_
  refine zv (.eq (4 * ((d + nk) % nk) = 0)) 0 ?_
  refine zv .mv 1 ?_
  refine zn ?_
  refine zP (fun hc8 => ?_) (fun hc8 => ?_)
  refine zx ?_
  replace hH := hH.drew
  have hi9 : 1 < 4 := by omega
  refine rv 0 (.ia 1 4 1 (hi := hi9)) 3 ?_
  refine rld 1 (hH.q 2 rfl) (.ld cByte ((cutF a (l.length + 4 * d - 4)) 1) (fun _ hS => ((holds_blk0 hS).elt hi9))) 1 ?_
  have hi10 : ((cutF a (l.length + 4 * d - 4)) 1).toNat < 256 := UInt8.toNat_lt _
  refine rv 2 (.ia 1 256 (((cutF a (l.length + 4 * d - 4)) 1).toNat) (hi := hi10)) 1 ?_
  refine rld 3 (hH.ob hR.1) (.ld cByte (boxF (((cutF a (l.length + 4 * d - 4)) 1).toNat)) (fun _ hS => ((holds_blk0 hS).elt hi10))) 1 ?_
  refine rv 4 .mv 0 ?_
  refine rv 5 (.xb ((boxF (((cutF a (l.length + 4 * d - 4)) 1).toNat)) ^^^ c) (u := (boxF (((cutF a (l.length + 4 * d - 4)) 1).toNat))) (v := c)) 3 ?_
  have hi11 : 2 < 4 := by omega
  refine rv 6 (.ia 1 4 2 (hi := hi11)) 0 ?_
  refine rld 7 (hH.q 2 rfl) (.ld cByte ((cutF a (l.length + 4 * d - 4)) 2) (fun _ hS => ((holds_blk0 hS).elt hi11))) 1 ?_
  have hi12 : ((cutF a (l.length + 4 * d - 4)) 2).toNat < 256 := UInt8.toNat_lt _
  refine rv 8 (.ia 1 256 (((cutF a (l.length + 4 * d - 4)) 2).toNat) (hi := hi12)) 1 ?_
  refine rld 9 (hH.ob hR.1) (.ld cByte (boxF (((cutF a (l.length + 4 * d - 4)) 2).toNat)) (fun _ hS => ((holds_blk0 hS).elt hi12))) 1 ?_
  have hi13 : 3 < 4 := by omega
  refine rv 10 (.ia 1 4 3 (hi := hi13)) 0 ?_
  refine rld 11 (hH.q 2 rfl) (.ld cByte ((cutF a (l.length + 4 * d - 4)) 3) (fun _ hS => ((holds_blk0 hS).elt hi13))) 1 ?_
  have hi14 : ((cutF a (l.length + 4 * d - 4)) 3).toNat < 256 := UInt8.toNat_lt _
  refine rv 12 (.ia 1 256 (((cutF a (l.length + 4 * d - 4)) 3).toNat) (hi := hi14)) 1 ?_
  refine rld 13 (hH.ob hR.1) (.ld cByte (boxF (((cutF a (l.length + 4 * d - 4)) 3).toNat)) (fun _ hS => ((holds_blk0 hS).elt hi14))) 1 ?_
  have hi15 : 0 < 4 := by omega
  refine rv 14 (.ia 1 4 0 (hi := hi15)) 0 ?_
  refine rld 15 (hH.q 2 rfl) (.ld cByte ((cutF a (l.length + 4 * d - 4)) 0) (fun _ hS => ((holds_blk0 hS).elt hi15))) 1 ?_
  have hi16 : ((cutF a (l.length + 4 * d - 4)) 0).toNat < 256 := UInt8.toNat_lt _
  refine rv 16 (.ia 1 256 (((cutF a (l.length + 4 * d - 4)) 0).toNat) (hi := hi16)) 1 ?_
  refine rld 17 (hH.ob hR.1) (.ld cByte (boxF (((cutF a (l.length + 4 * d - 4)) 0).toNat)) (fun _ hS => ((holds_blk0 hS).elt hi16))) 1 ?_
  refine rv 18 (v := ((cArr 4).val (pk4 ((boxF ((cutF a (l.length + 4 * d - 4)) 1).toNat) ^^^ c) (boxF ((cutF a (l.length + 4 * d - 4)) 2).toNat) (boxF ((cutF a (l.length + 4 * d - 4)) 3).toNat) (boxF ((cutF a (l.length + 4 * d - 4)) 0).toNat)))) (fun _ _ hF => opBuildP (cells := (cArr 4).enc (pk4 ((boxF ((cutF a (l.length + 4 * d - 4)) 1).toNat) ^^^ c) (boxF ((cutF a (l.length + 4 * d - 4)) 2).toNat) (boxF ((cutF a (l.length + 4 * d - 4)) 3).toNat) (boxF ((cutF a (l.length + 4 * d - 4)) 0).toNat))) (vals := [(0, (.int .u8 (((((boxF (((cutF a (l.length + 4 * d - 4)) 1).toNat)) ^^^ c).toNat) : Nat) : Int))), (1, (.int .u8 ((((boxF (((cutF a (l.length + 4 * d - 4)) 2).toNat)).toNat) : Nat) : Int))), (2, (.int .u8 ((((boxF (((cutF a (l.length + 4 * d - 4)) 3).toNat)).toNat) : Nat) : Int))), (3, (.int .u8 ((((boxF (((cutF a (l.length + 4 * d - 4)) 0).toNat)).toNat) : Nat) : Int)))]) rfl (EvP.cons (v := (.int .u8 (((((boxF (((cutF a (l.length + 4 * d - 4)) 1).toNat)) ^^^ c).toNat) : Nat) : Int))) (hF.ev 3 rfl) (EvP.cons (v := (.int .u8 ((((boxF (((cutF a (l.length + 4 * d - 4)) 2).toNat)).toNat) : Nat) : Int))) (hF.ev 2 rfl) (EvP.cons (v := (.int .u8 ((((boxF (((cutF a (l.length + 4 * d - 4)) 3).toNat)).toNat) : Nat) : Int))) (hF.ev 1 rfl) (EvP.cons (v := (.int .u8 ((((boxF (((cutF a (l.length + 4 * d - 4)) 0).toNat)).toNat) : Nat) : Int))) (hF.ev 0 rfl) EvP.nil)))) (by kernel_rfl) _) 15 ?_
  refine rx1k 19 ?_
  refine re0 19 2 hH rfl (.sw (cArr 4) (cutF a (l.length + 4 * d - 4)) (pk4 ((boxF ((cutF a (l.length + 4 * d - 4)) 1).toNat) ^^^ c) (boxF ((cutF a (l.length + 4 * d - 4)) 2).toNat) (boxF ((cutF a (l.length + 4 * d - 4)) 3).toNat) (boxF ((cutF a (l.length + 4 * d - 4)) 0).toNat))) trivial (pgo [] (pgo [] (pgo [] (pgo [] (pgo [] (pgo [] (pgo [] (pgo [] (.nil _ []))))))))) ?_
  clear hH
  rintro _ _ w rfl hH
  refine ⟨pnil, ?_⟩
  refine rn ?_
  refine cxReg ?_
  refine zv .mv 9 ?_
  refine zc Tryz.func96 (dbl_c c) trivial hH 1 ?_
  clear hH
  intro w hH
  refine zv .mv 1 ?_
  refine pxEnd ?_
  refine qxInN ?_
  refine qxThen ?_
  have hT := keyA hnk h4 (by omega) haW (by omega) hcc
  refine zr ?_
  refine zs (hH.q 2 rfl) (.ld (cArr 4) (pk4 ((boxF ((cutF a (l.length + 4 * d - 4)) 1).toNat) ^^^ c) (boxF ((cutF a (l.length + 4 * d - 4)) 2).toNat) (boxF ((cutF a (l.length + 4 * d - 4)) 3).toNat) (boxF ((cutF a (l.length + 4 * d - 4)) 0).toNat)) (fun _ hS => (holds_blk0 hS))) 2 ?_
  refine zv .mv 0 ?_
  refine zn ?_
  refine cxBlock ?_
  refine zL3 (fun (k : Nat) (_ : List UInt8) (_ : Array Value) => [(84, (.int .i64 (((k) : Nat) : Int))), (83, ((cArr 4).val (pk4 ((boxF ((cutF a (l.length + 4 * d - 4)) 1).toNat) ^^^ c) (boxF ((cutF a (l.length + 4 * d - 4)) 2).toNat) (boxF ((cutF a (l.length + 4 * d - 4)) 3).toNat) (boxF ((cutF a (l.length + 4 * d - 4)) 0).toNat)))), (6, (.int .i64 (((l.length + 4 * d) : Nat) : Int))), (5, (.int .u8 ((((dbl c).toNat) : Nat) : Int))), (4, (.slice (some ⟨g2, 0, none⟩) (16 * ((l.length / 4) + 7)) (16 * ((l.length / 4) + 7)))), (3, (.slice (some ⟨g1, 0, none⟩) ((l.length / 4) + 7) ((l.length / 4) + 7))), (0, (.slice A l.length z))]) (fun k b cs2 w => HH w0 [] [[bl g1 61 (madeCells ((cArr 16).enc (fun _ => 0)) (((l.length / 4) + 7) * 16))], [bl g2 5 cs2], [bl g7 106 ((cArr 4).enc (pk4 ((boxF ((cutF a (l.length + 4 * d - 4)) 1).toNat) ^^^ c) (boxF ((cutF a (l.length + 4 * d - 4)) 2).toNat) (boxF ((cutF a (l.length + 4 * d - 4)) 3).toNat) (boxF ((cutF a (l.length + 4 * d - 4)) 0).toNat)))]] w ∧ (k ≤ 4) ∧ (b.length = (16 * (l.length / 4 + 7))) ∧ (∀ j, j < l.length + 4 * d + k → b[j]? = some (aeW l j)) ∧ (Bk cByte (16 * (l.length / 4 + 7)) cs2 b)) (fun k _ _ => 4 - k) 0 a cs ⟨hH, (Nat.zero_le _), hal, haW, hB⟩ ?_
  clear hH
  rintro k b cs2 w ⟨hH, hk, hbl, hbW, hB2⟩
  refine zr ?_
  refine zv (.lt (k < 4)) 0 ?_
  refine zn ?_
  refine cxSeq ?_
  refine zP (fun hc17 => ?_) (fun hc17 => ?_)
  refine cxSkip ?_
  refine qxThen ?_
  refine cxSeq ?_
  refine cxBlock ?_
  refine zr ?_
  refine zv .mv 1 ?_
  have hi18 : k < 4 := by omega
  refine zv (v := (.int .u8 (((((pk4 ((boxF ((cutF a (l.length + 4 * d - 4)) 1).toNat) ^^^ c) (boxF ((cutF a (l.length + 4 * d - 4)) 2).toNat) (boxF ((cutF a (l.length + 4 * d - 4)) 3).toNat) (boxF ((cutF a (l.length + 4 * d - 4)) 0).toNat)) k).toNat) : Nat) : Int))) (fun _ _ hF => opIdxA (S := sBy) (e := 5) (n := 4) (i := k) (f := (pk4 ((boxF ((cutF a (l.length + 4 * d - 4)) 1).toNat) ^^^ c) (boxF ((cutF a (l.length + 4 * d - 4)) 2).toNat) (boxF ((cutF a (l.length + 4 * d - 4)) 3).toNat) (boxF ((cutF a (l.length + 4 * d - 4)) 0).toNat))) rfl (by kernel_rfl) (by kernel_rfl) (hF.ev 2 rfl) (hF.ev 1 rfl) rfl hi18) 0 ?_
  refine zv .mv 2 ?_
  refine zv .mv 2 ?_
  refine zn ?_
  refine cxReg ?_
  refine zv .mv 0 ?_
  refine zv .mv 0 ?_
  refine zv .mv 0 ?_
  refine zv (.add (((l.length + 4 * d) + k : Nat) : Int)) 3 ?_
  refine zv .mv 0 ?_
  refine zv .mv 0 ?_
  refine zv .mv 32 ?_
  refine zv (.add (((l.length + 4 * d) + k : Nat) : Int)) 3 ?_
  refine zv .mv 0 ?_
  refine zv .len 1 ?_
  refine zv (.sub (((4 * d + k) : Nat) : Int)) 3 ?_
  have hi19 : 4 * d + k < 16 * ((l.length / 4) + 7) := by omega
  have hj22 : 4 * d + k < b.length := by first | exact hi19 | (simp only [List.length_drop]; omega) | (simp only [List.length_drop, List.length_take]; omega) | omega
  obtain ⟨x20, hx21⟩ := get_at b (4 * d + k) hj22
  have hb23 := UInt8.toNat_lt x20
  refine zv (.ix 1 (4 * d + k) (hi := hi19)) 3 ?_
  refine zs (hH.q 1 rfl) (.ld cByte x20 (fun _ hS => ((hB2.holdsL hS) (4 * d + k) _ hx21))) 1 ?_
  refine zv .mv 8 ?_
  refine zv (.xb (x20 ^^^ ((pk4 ((boxF ((cutF a (l.length + 4 * d - 4)) 1).toNat) ^^^ c) (boxF ((cutF a (l.length + 4 * d - 4)) 2).toNat) (boxF ((cutF a (l.length + 4 * d - 4)) 3).toNat) (boxF ((cutF a (l.length + 4 * d - 4)) 0).toNat)) k)) (u := x20) (v := ((pk4 ((boxF ((cutF a (l.length + 4 * d - 4)) 1).toNat) ^^^ c) (boxF ((cutF a (l.length + 4 * d - 4)) 2).toNat) (boxF ((cutF a (l.length + 4 * d - 4)) 3).toNat) (boxF ((cutF a (l.length + 4 * d - 4)) 0).toNat)) k))) 3 ?_
  have hi24 : (l.length + 4 * d) + k < 16 * ((l.length / 4) + 7) := by omega
  have hj27 : (l.length + 4 * d) + k < b.length := by first | exact hi24 | (simp only [List.length_drop]; omega) | (simp only [List.length_drop, List.length_take]; omega) | omega
  obtain ⟨x25, hx26⟩ := get_at b ((l.length + 4 * d) + k) hj27
  have hb28 := UInt8.toNat_lt x25
  refine zv (.ix 1 ((l.length + 4 * d) + k) (hi := hi24)) 6 ?_
  obtain ⟨cur30, hcs31, hB29⟩ : ∃ cs, putL cs2 (0 + ((l.length + 4 * d) + k) * 1) (cByte.enc (x20 ^^^ ((pk4 ((boxF ((cutF a (l.length + 4 * d - 4)) 1).toNat) ^^^ c) (boxF ((cutF a (l.length + 4 * d - 4)) 2).toNat) (boxF ((cutF a (l.length + 4 * d - 4)) 3).toNat) (boxF ((cutF a (l.length + 4 * d - 4)) 0).toNat)) k))).toList = cs ∧ Bk cByte (16 * (l.length / 4 + 7)) cs (b.set ((l.length + 4 * d) + k) (x20 ^^^ ((pk4 ((boxF ((cutF a (l.length + 4 * d - 4)) 1).toNat) ^^^ c) (boxF ((cutF a (l.length + 4 * d - 4)) 2).toNat) (boxF ((cutF a (l.length + 4 * d - 4)) 3).toNat) (boxF ((cutF a (l.length + 4 * d - 4)) 0).toNat)) k))) := ⟨_, rfl, put_at hB2 ((l.length + 4 * d) + k) hj27 (x20 ^^^ ((pk4 ((boxF ((cutF a (l.length + 4 * d - 4)) 1).toNat) ^^^ c) (boxF ((cutF a (l.length + 4 * d - 4)) 2).toNat) (boxF ((cutF a (l.length + 4 * d - 4)) 3).toNat) (boxF ((cutF a (l.length + 4 * d - 4)) 0).toNat)) k))⟩
  refine ze0 1 hH rfl (fun _ hF => smStoreT (C := cByte) (z := (x20 ^^^ ((pk4 ((boxF ((cutF a (l.length + 4 * d - 4)) 1).toNat) ^^^ c) (boxF ((cutF a (l.length + 4 * d - 4)) 2).toNat) (boxF ((cutF a (l.length + 4 * d - 4)) 3).toNat) (boxF ((cutF a (l.length + 4 * d - 4)) 0).toNat)) k))) rfl (hF.ev 0 rfl) (hF.ev 1 rfl) rfl (by kernel_rfl) (room_at hB2 hj27) hcs31) trivial ?_
  clear hH
  rintro _ _ w rfl hH
  refine pxEnd ?_
  refine qxInN ?_
  refine qxThen ?_
  refine cxReg ?_
  refine zv (.add ((k + 1 : Nat) : Int)) 7 ?_
  refine zv .mv 1 ?_
  refine pxEnd ?_
  exact zR3 (k + 1) (b.set ((l.length + 4 * d) + k) (x20 ^^^ ((pk4 ((boxF ((cutF a (l.length + 4 * d - 4)) 1).toNat) ^^^ c) (boxF ((cutF a (l.length + 4 * d - 4)) 2).toNat) (boxF ((cutF a (l.length + 4 * d - 4)) 3).toNat) (boxF ((cutF a (l.length + 4 * d - 4)) 0).toNat)) k))) cur30 ⟨hH, (by omega), (by rw [List.length_set]; exact hbl), (set_upto (m := l.length + 4 * d + k) hbW (by omega) (by rw [hT k (by omega), Option.some.inj (hx21.symm.trans (hbW _ (by omega)))])), hB29⟩ (by omega)
  refine cxExit ?_
  refine qxThenE ?_
  refine qxThenE ?_
  refine qxInE ?_
  refine qxInN ?_
  refine qxThen ?_
  obtain rfl : k = 4 := by omega
  refine cxReg ?_
  refine zv .mv 15 ?_
  refine zv (.add (((l.length + 4 * (d + 1)) : Nat) : Int)) 1 ?_
  refine zv .mv 1 ?_
  refine pxEnd ?_
  replace hH : HH w0 [] [[bl g1 61 (madeCells ((cArr 16).enc (fun _ => 0)) (((l.length / 4) + 7) * 16))], [bl g2 5 cs2]] w := hH.only [true, true, false]
  exact zR4 (d + 1) (dbl c) cs2 b ⟨hH, (by omega), (by rw [hcc]; exact rc_next h4 (by omega)), hbl, (fun j hj => hbW j (by omega)), hB2⟩ (by omega)
  refine zr ?_
  refine zv (.eq (4 * ((d + nk) % nk) = 16)) 3 ?_
  refine zv .mv 1 ?_
  refine zn ?_
  refine zP (fun hc32 => ?_) (fun hc32 => ?_)
  refine cxRegX mixedOrders (by kernel_rfl) ?_
  replace hH := hH.drew
  have hi33 : 0 < 4 := by omega
  refine rv 0 (.ia 1 4 0 (hi := hi33)) 1 ?_
  refine rld 1 (hH.q 2 rfl) (.ld cByte ((cutF a (l.length + 4 * d - 4)) 0) (fun _ hS => ((holds_blk0 hS).elt hi33))) 1 ?_
  have hi34 : ((cutF a (l.length + 4 * d - 4)) 0).toNat < 256 := UInt8.toNat_lt _
  refine rv 2 (.ia 1 256 (((cutF a (l.length + 4 * d - 4)) 0).toNat) (hi := hi34)) 1 ?_
  refine rld 3 (hH.ob hR.1) (.ld cByte (boxF (((cutF a (l.length + 4 * d - 4)) 0).toNat)) (fun _ hS => ((holds_blk0 hS).elt hi34))) 1 ?_
  have hi35 : 1 < 4 := by omega
  refine rv 4 (.ia 1 4 1 (hi := hi35)) 0 ?_
  refine rld 5 (hH.q 2 rfl) (.ld cByte ((cutF a (l.length + 4 * d - 4)) 1) (fun _ hS => ((holds_blk0 hS).elt hi35))) 1 ?_
  have hi36 : ((cutF a (l.length + 4 * d - 4)) 1).toNat < 256 := UInt8.toNat_lt _
  refine rv 6 (.ia 1 256 (((cutF a (l.length + 4 * d - 4)) 1).toNat) (hi := hi36)) 1 ?_
  refine rld 7 (hH.ob hR.1) (.ld cByte (boxF (((cutF a (l.length + 4 * d - 4)) 1).toNat)) (fun _ hS => ((holds_blk0 hS).elt hi36))) 1 ?_
  have hi37 : 2 < 4 := by omega
  refine rv 8 (.ia 1 4 2 (hi := hi37)) 0 ?_
  refine rld 9 (hH.q 2 rfl) (.ld cByte ((cutF a (l.length + 4 * d - 4)) 2) (fun _ hS => ((holds_blk0 hS).elt hi37))) 1 ?_
  have hi38 : ((cutF a (l.length + 4 * d - 4)) 2).toNat < 256 := UInt8.toNat_lt _
  refine rv 10 (.ia 1 256 (((cutF a (l.length + 4 * d - 4)) 2).toNat) (hi := hi38)) 1 ?_
  refine rld 11 (hH.ob hR.1) (.ld cByte (boxF (((cutF a (l.length + 4 * d - 4)) 2).toNat)) (fun _ hS => ((holds_blk0 hS).elt hi38))) 1 ?_
  have hi39 : 3 < 4 := by omega
  refine rv 12 (.ia 1 4 3 (hi := hi39)) 0 ?_
  refine rld 13 (hH.q 2 rfl) (.ld cByte ((cutF a (l.length + 4 * d - 4)) 3) (fun _ hS => ((holds_blk0 hS).elt hi39))) 1 ?_
  have hi40 : ((cutF a (l.length + 4 * d - 4)) 3).toNat < 256 := UInt8.toNat_lt _
  refine rv 14 (.ia 1 256 (((cutF a (l.length + 4 * d - 4)) 3).toNat) (hi := hi40)) 1 ?_
  refine rld 15 (hH.ob hR.1) (.ld cByte (boxF (((cutF a (l.length + 4 * d - 4)) 3).toNat)) (fun _ hS => ((holds_blk0 hS).elt hi40))) 1 ?_
  refine rv 16 (v := ((cArr 4).val (pk4 (boxF ((cutF a (l.length + 4 * d - 4)) 0).toNat) (boxF ((cutF a (l.length + 4 * d - 4)) 1).toNat) (boxF ((cutF a (l.length + 4 * d - 4)) 2).toNat) (boxF ((cutF a (l.length + 4 * d - 4)) 3).toNat)))) (fun _ _ hF => opBuildP (cells := (cArr 4).enc (pk4 (boxF ((cutF a (l.length + 4 * d - 4)) 0).toNat) (boxF ((cutF a (l.length + 4 * d - 4)) 1).toNat) (boxF ((cutF a (l.length + 4 * d - 4)) 2).toNat) (boxF ((cutF a (l.length + 4 * d - 4)) 3).toNat))) (vals := [(0, (.int .u8 ((((boxF (((cutF a (l.length + 4 * d - 4)) 0).toNat)).toNat) : Nat) : Int))), (1, (.int .u8 ((((boxF (((cutF a (l.length + 4 * d - 4)) 1).toNat)).toNat) : Nat) : Int))), (2, (.int .u8 ((((boxF (((cutF a (l.length + 4 * d - 4)) 2).toNat)).toNat) : Nat) : Int))), (3, (.int .u8 ((((boxF (((cutF a (l.length + 4 * d - 4)) 3).toNat)).toNat) : Nat) : Int)))]) rfl (EvP.cons (v := (.int .u8 ((((boxF (((cutF a (l.length + 4 * d - 4)) 0).toNat)).toNat) : Nat) : Int))) (hF.ev 3 rfl) (EvP.cons (v := (.int .u8 ((((boxF (((cutF a (l.length + 4 * d - 4)) 1).toNat)).toNat) : Nat) : Int))) (hF.ev 2 rfl) (EvP.cons (v := (.int .u8 ((((boxF (((cutF a (l.length + 4 * d - 4)) 2).toNat)).toNat) : Nat) : Int))) (hF.ev 1 rfl) (EvP.cons (v := (.int .u8 ((((boxF (((cutF a (l.length + 4 * d - 4)) 3).toNat)).toNat) : Nat) : Int))) (hF.ev 0 rfl) EvP.nil)))) (by kernel_rfl) _) 15 ?_
  refine rx1k 17 ?_
  refine re0 17 2 hH rfl (.sw (cArr 4) (cutF a (l.length + 4 * d - 4)) (pk4 (boxF ((cutF a (l.length + 4 * d - 4)) 0).toNat) (boxF ((cutF a (l.length + 4 * d - 4)) 1).toNat) (boxF ((cutF a (l.length + 4 * d - 4)) 2).toNat) (boxF ((cutF a (l.length + 4 * d - 4)) 3).toNat))) trivial (pgo [] (pgo [] (pgo [] (pgo [] (pgo [] (pgo [] (pgo [] (pgo [] (.nil _ []))))))))) ?_
  clear hH
  rintro _ _ w rfl hH
  refine ⟨pnil, ?_⟩
  refine rxEnd (by kernel_rfl) ?_
  refine qxInN ?_
  refine qxThen ?_
  have hT := keyC hnk h4 (by omega) haW (by omega) (by omega)
  refine zr ?_
  refine zs (hH.q 2 rfl) (.ld (cArr 4) (pk4 (boxF ((cutF a (l.length + 4 * d - 4)) 0).toNat) (boxF ((cutF a (l.length + 4 * d - 4)) 1).toNat) (boxF ((cutF a (l.length + 4 * d - 4)) 2).toNat) (boxF ((cutF a (l.length + 4 * d - 4)) 3).toNat)) (fun _ hS => (holds_blk0 hS))) 3 ?_
  refine zv .mv 0 ?_
  refine zn ?_
  refine cxBlock ?_
  refine zL3 (fun (k : Nat) (_ : List UInt8) (_ : Array Value) => [(84, (.int .i64 (((k) : Nat) : Int))), (83, ((cArr 4).val (pk4 (boxF ((cutF a (l.length + 4 * d - 4)) 0).toNat) (boxF ((cutF a (l.length + 4 * d - 4)) 1).toNat) (boxF ((cutF a (l.length + 4 * d - 4)) 2).toNat) (boxF ((cutF a (l.length + 4 * d - 4)) 3).toNat)))), (6, (.int .i64 (((l.length + 4 * d) : Nat) : Int))), (5, (.int .u8 (((c.toNat) : Nat) : Int))), (4, (.slice (some ⟨g2, 0, none⟩) (16 * ((l.length / 4) + 7)) (16 * ((l.length / 4) + 7)))), (3, (.slice (some ⟨g1, 0, none⟩) ((l.length / 4) + 7) ((l.length / 4) + 7))), (0, (.slice A l.length z))]) (fun k b cs2 w => HH w0 [] [[bl g1 61 (madeCells ((cArr 16).enc (fun _ => 0)) (((l.length / 4) + 7) * 16))], [bl g2 5 cs2], [bl g7 106 ((cArr 4).enc (pk4 (boxF ((cutF a (l.length + 4 * d - 4)) 0).toNat) (boxF ((cutF a (l.length + 4 * d - 4)) 1).toNat) (boxF ((cutF a (l.length + 4 * d - 4)) 2).toNat) (boxF ((cutF a (l.length + 4 * d - 4)) 3).toNat)))]] w ∧ (k ≤ 4) ∧ (b.length = (16 * (l.length / 4 + 7))) ∧ (∀ j, j < l.length + 4 * d + k → b[j]? = some (aeW l j)) ∧ (Bk cByte (16 * (l.length / 4 + 7)) cs2 b)) (fun k _ _ => 4 - k) 0 a cs ⟨hH, (Nat.zero_le _), hal, haW, hB⟩ ?_
  clear hH
  rintro k b cs2 w ⟨hH, hk, hbl, hbW, hB2⟩
  refine zr ?_
  refine zv (.lt (k < 4)) 0 ?_
  refine zn ?_
  refine cxSeq ?_
  refine zP (fun hc41 => ?_) (fun hc41 => ?_)
  refine cxSkip ?_
  refine qxThen ?_
  refine cxSeq ?_
  refine cxBlock ?_
  refine zr ?_
  refine zv .mv 1 ?_
  have hi42 : k < 4 := by omega
  refine zv (v := (.int .u8 (((((pk4 (boxF ((cutF a (l.length + 4 * d - 4)) 0).toNat) (boxF ((cutF a (l.length + 4 * d - 4)) 1).toNat) (boxF ((cutF a (l.length + 4 * d - 4)) 2).toNat) (boxF ((cutF a (l.length + 4 * d - 4)) 3).toNat)) k).toNat) : Nat) : Int))) (fun _ _ hF => opIdxA (S := sBy) (e := 5) (n := 4) (i := k) (f := (pk4 (boxF ((cutF a (l.length + 4 * d - 4)) 0).toNat) (boxF ((cutF a (l.length + 4 * d - 4)) 1).toNat) (boxF ((cutF a (l.length + 4 * d - 4)) 2).toNat) (boxF ((cutF a (l.length + 4 * d - 4)) 3).toNat))) rfl (by kernel_rfl) (by kernel_rfl) (hF.ev 2 rfl) (hF.ev 1 rfl) rfl hi42) 0 ?_
  refine zv .mv 2 ?_
  refine zv .mv 2 ?_
  refine zn ?_
  refine cxReg ?_
  refine zv .mv 0 ?_
  refine zv .mv 0 ?_
  refine zv .mv 0 ?_
  refine zv (.add (((l.length + 4 * d) + k : Nat) : Int)) 3 ?_
  refine zv .mv 0 ?_
  refine zv .mv 0 ?_
  refine zv .mv 32 ?_
  refine zv (.add (((l.length + 4 * d) + k : Nat) : Int)) 3 ?_
  refine zv .mv 0 ?_
  refine zv .len 1 ?_
  refine zv (.sub (((4 * d + k) : Nat) : Int)) 3 ?_
  have hi43 : 4 * d + k < 16 * ((l.length / 4) + 7) := by omega
  have hj46 : 4 * d + k < b.length := by first | exact hi43 | (simp only [List.length_drop]; omega) | (simp only [List.length_drop, List.length_take]; omega) | omega
  obtain ⟨x44, hx45⟩ := get_at b (4 * d + k) hj46
  have hb47 := UInt8.toNat_lt x44
  refine zv (.ix 1 (4 * d + k) (hi := hi43)) 3 ?_
  refine zs (hH.q 1 rfl) (.ld cByte x44 (fun _ hS => ((hB2.holdsL hS) (4 * d + k) _ hx45))) 1 ?_
  refine zv .mv 8 ?_
  refine zv (.xb (x44 ^^^ ((pk4 (boxF ((cutF a (l.length + 4 * d - 4)) 0).toNat) (boxF ((cutF a (l.length + 4 * d - 4)) 1).toNat) (boxF ((cutF a (l.length + 4 * d - 4)) 2).toNat) (boxF ((cutF a (l.length + 4 * d - 4)) 3).toNat)) k)) (u := x44) (v := ((pk4 (boxF ((cutF a (l.length + 4 * d - 4)) 0).toNat) (boxF ((cutF a (l.length + 4 * d - 4)) 1).toNat) (boxF ((cutF a (l.length + 4 * d - 4)) 2).toNat) (boxF ((cutF a (l.length + 4 * d - 4)) 3).toNat)) k))) 3 ?_
  have hi48 : (l.length + 4 * d) + k < 16 * ((l.length / 4) + 7) := by omega
  have hj51 : (l.length + 4 * d) + k < b.length := by first | exact hi48 | (simp only [List.length_drop]; omega) | (simp only [List.length_drop, List.length_take]; omega) | omega
  obtain ⟨x49, hx50⟩ := get_at b ((l.length + 4 * d) + k) hj51
  have hb52 := UInt8.toNat_lt x49
  refine zv (.ix 1 ((l.length + 4 * d) + k) (hi := hi48)) 6 ?_
  obtain ⟨cur54, hcs55, hB53⟩ : ∃ cs, putL cs2 (0 + ((l.length + 4 * d) + k) * 1) (cByte.enc (x44 ^^^ ((pk4 (boxF ((cutF a (l.length + 4 * d - 4)) 0).toNat) (boxF ((cutF a (l.length + 4 * d - 4)) 1).toNat) (boxF ((cutF a (l.length + 4 * d - 4)) 2).toNat) (boxF ((cutF a (l.length + 4 * d - 4)) 3).toNat)) k))).toList = cs ∧ Bk cByte (16 * (l.length / 4 + 7)) cs (b.set ((l.length + 4 * d) + k) (x44 ^^^ ((pk4 (boxF ((cutF a (l.length + 4 * d - 4)) 0).toNat) (boxF ((cutF a (l.length + 4 * d - 4)) 1).toNat) (boxF ((cutF a (l.length + 4 * d - 4)) 2).toNat) (boxF ((cutF a (l.length + 4 * d - 4)) 3).toNat)) k))) := ⟨_, rfl, put_at hB2 ((l.length + 4 * d) + k) hj51 (x44 ^^^ ((pk4 (boxF ((cutF a (l.length + 4 * d - 4)) 0).toNat) (boxF ((cutF a (l.length + 4 * d - 4)) 1).toNat) (boxF ((cutF a (l.length + 4 * d - 4)) 2).toNat) (boxF ((cutF a (l.length + 4 * d - 4)) 3).toNat)) k))⟩
  refine ze0 1 hH rfl (fun _ hF => smStoreT (C := cByte) (z := (x44 ^^^ ((pk4 (boxF ((cutF a (l.length + 4 * d - 4)) 0).toNat) (boxF ((cutF a (l.length + 4 * d - 4)) 1).toNat) (boxF ((cutF a (l.length + 4 * d - 4)) 2).toNat) (boxF ((cutF a (l.length + 4 * d - 4)) 3).toNat)) k))) rfl (hF.ev 0 rfl) (hF.ev 1 rfl) rfl (by kernel_rfl) (room_at hB2 hj51) hcs55) trivial ?_
  clear hH
  rintro _ _ w rfl hH
  refine pxEnd ?_
  refine qxInN ?_
  refine qxThen ?_
  refine cxReg ?_
  refine zv (.add ((k + 1 : Nat) : Int)) 7 ?_
  refine zv .mv 1 ?_
  refine pxEnd ?_
  exact zR3 (k + 1) (b.set ((l.length + 4 * d) + k) (x44 ^^^ ((pk4 (boxF ((cutF a (l.length + 4 * d - 4)) 0).toNat) (boxF ((cutF a (l.length + 4 * d - 4)) 1).toNat) (boxF ((cutF a (l.length + 4 * d - 4)) 2).toNat) (boxF ((cutF a (l.length + 4 * d - 4)) 3).toNat)) k))) cur54 ⟨hH, (by omega), (by rw [List.length_set]; exact hbl), (set_upto (m := l.length + 4 * d + k) hbW (by omega) (by rw [hT k (by omega), Option.some.inj (hx45.symm.trans (hbW _ (by omega)))])), hB53⟩ (by omega)
  refine cxExit ?_
  refine qxThenE ?_
  refine qxThenE ?_
  refine qxInE ?_
  refine qxInN ?_
  refine qxThen ?_
  obtain rfl : k = 4 := by omega
  refine cxReg ?_
  refine zv .mv 15 ?_
  refine zv (.add (((l.length + 4 * (d + 1)) : Nat) : Int)) 1 ?_
  refine zv .mv 1 ?_
  refine pxEnd ?_
  replace hH : HH w0 [] [[bl g1 61 (madeCells ((cArr 16).enc (fun _ => 0)) (((l.length / 4) + 7) * 16))], [bl g2 5 cs2]] w := hH.only [true, true, false]
  exact zR4 (d + 1) c cs2 b ⟨hH, (by omega), (hcc.trans (rc_same h4 (by omega))), hbl, (fun j hj => hbW j (by omega)), hB2⟩ (by omega)
  refine cxSkip ?_
  refine qxInN ?_
  refine qxThen ?_
  have hT := keyB hnk h4 (by omega) haW (by omega) (by omega)
  refine zr ?_
  refine zs (hH.q 2 rfl) (.ld (cArr 4) (cutF a (l.length + 4 * d - 4)) (fun _ hS => (holds_blk0 hS))) 3 ?_
  refine zv .mv 0 ?_
  refine zn ?_
  refine cxBlock ?_
  refine zL3 (fun (k : Nat) (_ : List UInt8) (_ : Array Value) => [(84, (.int .i64 (((k) : Nat) : Int))), (83, ((cArr 4).val (cutF a (l.length + 4 * d - 4)))), (6, (.int .i64 (((l.length + 4 * d) : Nat) : Int))), (5, (.int .u8 (((c.toNat) : Nat) : Int))), (4, (.slice (some ⟨g2, 0, none⟩) (16 * ((l.length / 4) + 7)) (16 * ((l.length / 4) + 7)))), (3, (.slice (some ⟨g1, 0, none⟩) ((l.length / 4) + 7) ((l.length / 4) + 7))), (0, (.slice A l.length z))]) (fun k b cs2 w => HH w0 [] [[bl g1 61 (madeCells ((cArr 16).enc (fun _ => 0)) (((l.length / 4) + 7) * 16))], [bl g2 5 cs2], [bl g7 106 ((cArr 4).enc (cutF a (l.length + 4 * d - 4)))]] w ∧ (k ≤ 4) ∧ (b.length = (16 * (l.length / 4 + 7))) ∧ (∀ j, j < l.length + 4 * d + k → b[j]? = some (aeW l j)) ∧ (Bk cByte (16 * (l.length / 4 + 7)) cs2 b)) (fun k _ _ => 4 - k) 0 a cs ⟨hH, (Nat.zero_le _), hal, haW, hB⟩ ?_
  clear hH
  rintro k b cs2 w ⟨hH, hk, hbl, hbW, hB2⟩
  refine zr ?_
  refine zv (.lt (k < 4)) 0 ?_
  refine zn ?_
  refine cxSeq ?_
  refine zP (fun hc56 => ?_) (fun hc56 => ?_)
  refine cxSkip ?_
  refine qxThen ?_
  refine cxSeq ?_
  refine cxBlock ?_
  refine zr ?_
  refine zv .mv 1 ?_
  have hi57 : k < 4 := by omega
  refine zv (v := (.int .u8 (((((cutF a (l.length + 4 * d - 4)) k).toNat) : Nat) : Int))) (fun _ _ hF => opIdxA (S := sBy) (e := 5) (n := 4) (i := k) (f := (cutF a (l.length + 4 * d - 4))) rfl (by kernel_rfl) (by kernel_rfl) (hF.ev 2 rfl) (hF.ev 1 rfl) rfl hi57) 0 ?_
  refine zv .mv 2 ?_
  refine zv .mv 2 ?_
  refine zn ?_
  refine cxReg ?_
  refine zv .mv 0 ?_
  refine zv .mv 0 ?_
  refine zv .mv 0 ?_
  refine zv (.add (((l.length + 4 * d) + k : Nat) : Int)) 3 ?_
  refine zv .mv 0 ?_
  refine zv .mv 0 ?_
  refine zv .mv 32 ?_
  refine zv (.add (((l.length + 4 * d) + k : Nat) : Int)) 3 ?_
  refine zv .mv 0 ?_
  refine zv .len 1 ?_
  refine zv (.sub (((4 * d + k) : Nat) : Int)) 3 ?_
  have hi58 : 4 * d + k < 16 * ((l.length / 4) + 7) := by omega
  have hj61 : 4 * d + k < b.length := by first | exact hi58 | (simp only [List.length_drop]; omega) | (simp only [List.length_drop, List.length_take]; omega) | omega
  obtain ⟨x59, hx60⟩ := get_at b (4 * d + k) hj61
  have hb62 := UInt8.toNat_lt x59
  refine zv (.ix 1 (4 * d + k) (hi := hi58)) 3 ?_
  refine zs (hH.q 1 rfl) (.ld cByte x59 (fun _ hS => ((hB2.holdsL hS) (4 * d + k) _ hx60))) 1 ?_
  refine zv .mv 8 ?_
  refine zv (.xb (x59 ^^^ ((cutF a (l.length + 4 * d - 4)) k)) (u := x59) (v := ((cutF a (l.length + 4 * d - 4)) k))) 3 ?_
  have hi63 : (l.length + 4 * d) + k < 16 * ((l.length / 4) + 7) := by omega
  have hj66 : (l.length + 4 * d) + k < b.length := by first | exact hi63 | (simp only [List.length_drop]; omega) | (simp only [List.length_drop, List.length_take]; omega) | omega
  obtain ⟨x64, hx65⟩ := get_at b ((l.length + 4 * d) + k) hj66
  have hb67 := UInt8.toNat_lt x64
  refine zv (.ix 1 ((l.length + 4 * d) + k) (hi := hi63)) 6 ?_
  obtain ⟨cur69, hcs70, hB68⟩ : ∃ cs, putL cs2 (0 + ((l.length + 4 * d) + k) * 1) (cByte.enc (x59 ^^^ ((cutF a (l.length + 4 * d - 4)) k))).toList = cs ∧ Bk cByte (16 * (l.length / 4 + 7)) cs (b.set ((l.length + 4 * d) + k) (x59 ^^^ ((cutF a (l.length + 4 * d - 4)) k))) := ⟨_, rfl, put_at hB2 ((l.length + 4 * d) + k) hj66 (x59 ^^^ ((cutF a (l.length + 4 * d - 4)) k))⟩
  refine ze0 1 hH rfl (fun _ hF => smStoreT (C := cByte) (z := (x59 ^^^ ((cutF a (l.length + 4 * d - 4)) k))) rfl (hF.ev 0 rfl) (hF.ev 1 rfl) rfl (by kernel_rfl) (room_at hB2 hj66) hcs70) trivial ?_
  clear hH
  rintro _ _ w rfl hH
  refine pxEnd ?_
  refine qxInN ?_
  refine qxThen ?_
  refine cxReg ?_
  refine zv (.add ((k + 1 : Nat) : Int)) 7 ?_
  refine zv .mv 1 ?_
  refine pxEnd ?_
  exact zR3 (k + 1) (b.set ((l.length + 4 * d) + k) (x59 ^^^ ((cutF a (l.length + 4 * d - 4)) k))) cur69 ⟨hH, (by omega), (by rw [List.length_set]; exact hbl), (set_upto (m := l.length + 4 * d + k) hbW (by omega) (by rw [hT k (by omega), Option.some.inj (hx60.symm.trans (hbW _ (by omega)))])), hB68⟩ (by omega)
  refine cxExit ?_
  refine qxThenE ?_
  refine qxThenE ?_
  refine qxInE ?_
  refine qxInN ?_
  refine qxThen ?_
  obtain rfl : k = 4 := by omega
  refine cxReg ?_
  refine zv .mv 15 ?_
  refine zv (.add (((l.length + 4 * (d + 1)) : Nat) : Int)) 1 ?_
  refine zv .mv 1 ?_
  refine pxEnd ?_
  replace hH : HH w0 [] [[bl g1 61 (madeCells ((cArr 16).enc (fun _ => 0)) (((l.length / 4) + 7) * 16))], [bl g2 5 cs2]] w := hH.only [true, true, false]
  exact zR4 (d + 1) c cs2 b ⟨hH, (by omega), (hcc.trans (rc_same h4 (by omega))), hbl, (fun j hj => hbW j (by omega)), hB2⟩ (by omega)
  refine cxExit ?_
  refine qxThenE ?_
  refine qxThenE ?_
  refine qxInE ?_
  refine qxThen ?_
  refine cxSeq ?_
  obtain rfl : a = lst (16 * (l.length / 4 + 7)) (aeW l) := lst_of_known (fun j hj => haW j (by omega)) hal
  refine zr ?_
  refine zv .mv 39 ?_
  refine zv .len 1 ?_
  refine zv .mv 0 ?_
  refine zn ?_
  refine cxBlock ?_
  refine zL3 (fun (i : Nat) (_ : List (Nat → UInt8)) (_ : Array Value) => [(107, (.int .i64 (((i) : Nat) : Int))), (106, (.int .i64 ((((l.length / 4) + 7) : Nat) : Int))), (4, (.slice (some ⟨g2, 0, none⟩) (16 * ((l.length / 4) + 7)) (16 * ((l.length / 4) + 7)))), (3, (.slice (some ⟨g1, 0, none⟩) ((l.length / 4) + 7) ((l.length / 4) + 7)))]) (fun i kl cs3 w => HH w0 [] [[bl g1 61 cs3], [bl g2 5 cs]] w ∧ (i ≤ (l.length / 4 + 7)) ∧ (kl.length = (l.length / 4 + 7)) ∧ (∀ j, j < i → kl[j]? = some (cutF (lst (16 * (l.length / 4 + 7)) (aeW l)) (16 * j))) ∧ (Bk (cArr 16) (l.length / 4 + 7) cs3 kl)) (fun i _ _ => (l.length / 4 + 7) - i) 0 (List.replicate ((l.length / 4) + 7) (fun _ => 0)) (madeCells ((cArr 16).enc (fun _ => 0)) (((l.length / 4) + 7) * 16)) ⟨hH, (Nat.zero_le _), List.length_replicate, (fun j hj => absurd hj (Nat.not_lt_zero _)), (Bk.make (C := (cArr 16)) (fun _ => 0) ((l.length / 4) + 7) (ltb rfl) (by unfold maxLen; omega))⟩ ?_
  clear hH
  rintro i kl cs3 w ⟨hH, hi, hkl, hkW, hB3⟩
  refine zr ?_
  refine zv (.lt (i < (l.length / 4) + 7)) 0 ?_
  refine zn ?_
  refine cxSeq ?_
  refine zP (fun hc71 => ?_) (fun hc71 => ?_)
  refine cxSkip ?_
  refine qxThen ?_
  refine cxSeq ?_
  refine cxBlock ?_
  refine zr ?_
  refine zv .mv 1 ?_
  refine zv .mv 1 ?_
  refine zn ?_
  refine cxReg ?_
  refine zv .mv 0 ?_
  refine zv .mv 0 ?_
  refine zv .mv 0 ?_
  refine zv .mv 8 ?_
  refine zv (.mul ((16 * i : Nat) : Int)) 1 ?_
  refine zv (v := (.slice (some ⟨g2, 0 + (16 * i) * 1, none⟩) ((16 * ((l.length / 4) + 7)) - (16 * i)) ((16 * ((l.length / 4) + 7)) - (16 * i)))) (fun _ _ hF => opSlcL (k := 16 * i) (e := 5) (sz := 1) rfl (by kernel_rfl) (by kernel_rfl) (hF.ev 1 rfl) (hF.ev 0 rfl) rfl (by omega) (by omega)) 3 ?_
  refine zv (v := (.pointer (some ⟨g2, 0 + (16 * i) * 1, none⟩))) (fun _ _ hF => opToArray (m := 16) (e := 5) rfl (by kernel_rfl) (hF.ev 0 rfl) (by omega)) 1 ?_
  refine zs (hH.q 1 rfl) (.ld (cArr 16) (cutF (lst (16 * (l.length / 4 + 7)) (aeW l)) (16 * i)) (fun _ hS => ((hB.holdsL hS).arr (16 * i) 16 (by first | omega | (rw [lst_len]; omega) | (simp only [List.length_drop, List.length_take, lst_len]; omega) | (simp only [List.length_drop, List.length_take]; omega))))) 1 ?_
  have hi72 : i < (l.length / 4) + 7 := by omega
  have hj75 : i < kl.length := by first | exact hi72 | (simp only [List.length_drop]; omega) | (simp only [List.length_drop, List.length_take]; omega) | omega
  obtain ⟨x73, hx74⟩ := get_at kl i hj75
  refine zv (.ix 16 i (hi := hi72)) 6 ?_
  obtain ⟨cur77, hcs78, hB76⟩ : ∃ cs, putL cs3 (0 + i * 16) ((cArr 16).enc (cutF (lst (16 * (l.length / 4 + 7)) (aeW l)) (16 * i))).toList = cs ∧ Bk (cArr 16) (l.length / 4 + 7) cs (kl.set i (cutF (lst (16 * (l.length / 4 + 7)) (aeW l)) (16 * i))) := ⟨_, rfl, put_at hB3 i hj75 (cutF (lst (16 * (l.length / 4 + 7)) (aeW l)) (16 * i))⟩
  refine ze0 0 hH rfl (fun _ hF => smStoreT (C := (cArr 16)) (z := (cutF (lst (16 * (l.length / 4 + 7)) (aeW l)) (16 * i))) rfl (hF.ev 0 rfl) (hF.ev 1 rfl) rfl (by kernel_rfl) (room_at hB3 hj75) hcs78) trivial ?_
  clear hH
  rintro _ _ w rfl hH
  refine pxEnd ?_
  refine qxInN ?_
  refine qxThen ?_
  refine cxReg ?_
  refine zv (.add ((i + 1 : Nat) : Int)) 7 ?_
  refine zv .mv 1 ?_
  refine pxEnd ?_
  exact zR3 (i + 1) (kl.set i (cutF (lst (16 * (l.length / 4 + 7)) (aeW l)) (16 * i))) cur77 ⟨hH, (by omega), (by rw [List.length_set]; exact hkl), (setG hkW (by omega) rfl), hB76⟩ (by omega)
  refine cxExit ?_
  refine qxThenE ?_
  refine qxThenE ?_
  refine qxInE ?_
  refine qxThen ?_
  refine zr ?_
  refine zv .mv 31 ?_
  refine zv .mv 1 ?_
  refine zn ?_
  refine cxRet ?_
  refine qxRet1 0 rfl rfl ?_
  obtain rfl : i = (l.length / 4 + 7) := by omega
  obtain rfl : kl = aeK l := map_of_known hkW hkl
  exact ⟨_, _, rfl, hB3.own 61 g1 (aeK_len l), hH.out1 [true, false] rfl⟩
end Go.Proofs.YtfloiekaiiapnaaGreatDoor
