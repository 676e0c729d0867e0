/- What the claim leans on, part 6: plain theorems, and walks of functions of the program and of the document. -/
import Derived.Test.YtfloiekaiiapnaaGreatDoorKSeipdSealsCE
import Derived.Test.YtfloiekaiiapnaaGreatDoorProg
import Derived.Test.YtfloiekaiiapnaaGreatDoorKSeipdSealsCA
import Derived.WalkKit
import Derived.OwnWalkIn
import Derived.LoopNIn
import Derived.LoopIn
import Derived.Shelf.Abstract
import Derived.Shelf.RegionOpen
import Derived.OpenShut
import Derived.Deep.Slices
import Derived.SizedLaws
import Derived.WideShapes
import Derived.ChangeArms
namespace Go.Proofs.YtfloiekaiiapnaaGreatDoor
open Go Go.RowKit
set_option maxRecDepth 100000

theorem rst_step {X L : List UInt8} {k p i : Nat} {y : UInt8} {F : Nat → UInt8} (hL : L = X.take k ++ (lst i (added (cutF X k) F) ++ X.drop (k + i))) (hi : i < p) (hk : k + p ≤ X.length) (hx : ((L.take (k + p)).drop k)[i]? = some y) : L.set (k + i) (y ^^^ F i) = X.take k ++ (lst (i + 1) (added (cutF X k) F) ++ X.drop (k + (i + 1))) := by
  have hl : (X.take k).length = k := by rw [List.length_take]; omega
  have h1 : X[k + i]? = some y := by
    rw [List.getElem?_drop, List.getElem?_take, if_pos (by omega), hL, List.getElem?_append_right (by omega), List.getElem?_append_right (by rw [lst_len]; omega), lst_len, List.getElem?_drop] at hx
    rw [← hx]
    congr 1
    omega
  have h2 : y ^^^ F i = added (cutF X k) F i := by rw [← cut_of h1]; rfl
  have h3 : k + i < X.length := by omega
  rw [h2, hL, List.set_append_right _ _ (by omega), hl, Nat.add_sub_cancel_left, List.set_append_right _ _ (by rw [lst_len]; omega), lst_len, Nat.sub_self, List.drop_eq_getElem_cons h3, List.set_cons_zero, show lst (i + 1) (added (cutF X k) F) = lst i (added (cutF X k) F) ++ [added (cutF X k) F i] by simp [lst, List.range_succ], List.append_assoc]
  rfl
theorem part_at {X : List UInt8} {k p q : Nat} (hq : q < p) : cutF ((X.take (k + p)).drop k) 0 q = cutF X k q := by
  unfold cutF
  rw [Nat.zero_add, List.getD_eq_getElem?_getD, List.getD_eq_getElem?_getD, List.getElem?_drop, List.getElem?_take, if_pos (by omega)]
theorem not2 {x a b : Nat} (h1 : x ∉ [a]) (h2 : x ∉ [b]) : x ∉ [a, b] := fun h => by
  rcases List.mem_cons.1 h with rfl | h
  · exact h1 (by simp)
  · exact h2 h

set_option maxHeartbeats 8000000 in
theorem thraeE_c (A : Option Addr) (z : Nat) (l : List UInt8) (hk : l.length = 16 ∨ l.length = 32) (st dl o : Nat → UInt8) (g gt n c cap : Nat) (cur : Array Value) (X : List UInt8) (hB : Bk cByte cap cur X) (hn : n ≤ X.length) (hnc : n ≤ c) (hX : X.length ≤ 140737488355328) : Does Tryz.prog 44 #[(.pointer (some ⟨g, 0, none⟩)), (.slice (some ⟨gt, 0, none⟩) n c), (.func (.func 45) #[(cMk.val ((A, l.length, z), st, dl))] #[])] [bl g 78 (cWk.enc (((A, l.length, z), st, dl), o, 0)), bl gt 5 cur] (fun w => w.heap[2]? = some (.cells ((cArr 256).enc boxF) 105 (0, 0)) ∧ w.heap[4]? = some (.cells ((cArr 64).enc dbF) 104 (0, 0)) ∧ Vu cByte w A l.length z l ∧ Off A l.length [g, gt]) (fun v E' => v = .tuple #[] ∧ ∃ cu, E' = [bl g 78 (cWk.enc (((A, l.length, z), st, dl), ofE st dl o n, n / 16)), bl gt 5 cu] ∧ Bk cByte cap cu (thL (aeE l) (aeE l) st dl o (X.take n) ++ X.drop n)) := by
  refine does_ofM (fn := Tryz.f44) Tryz.func44 rfl Tryz.ntmps44 (Nat.le_of_ble_eq_true rfl) rfl ?_
  intro w0 hH hR
  have hcap := hB.le
  replace hH : HH w0 (bks ([bl g 78 (cWk.enc (((A, l.length, z), st, dl), o, 0)), bl gt 5 cur])) [[bl g 78 (cWk.enc (((A, l.length, z), st, dl), o, 0))], [bl gt 5 cur]] w0 := hH.cast (by simp)
  have hb0 : 2 ∉ (bks ([bl g 78 (cWk.enc (((A, l.length, z), st, dl), o, 0)), bl gt 5 cur])) := not2 (ne_ty hR.1 (hH.blk 0 rfl) rfl) (ne_ty hR.1 (hH.blk 1 rfl) rfl)
  have hd0 : 4 ∉ (bks ([bl g 78 (cWk.enc (((A, l.length, z), st, dl), o, 0)), bl gt 5 cur])) := not2 (ne_ty hR.2.1 (hH.blk 0 rfl) rfl) (ne_ty hR.2.1 (hH.blk 1 rfl) rfl)
  refine zr ?_
  refine zm hH (fun _ hF => smBox rfl (hF.ev 0 rfl) rfl) trivial 1 ?_
  clear hH
  rintro _ _ w ⟨g1, rfl, rfl⟩ hH
  refine zm hH (fun _ hF => smBox rfl (hF.ev 2 rfl) rfl) trivial 4 ?_
  clear hH
  rintro _ _ w ⟨g2, rfl, rfl⟩ hH
  refine zn ?_
  refine zr ?_
  refine zv .mv 4 ?_
  refine zm hH (.call Tryz.func13 (chk16_d (some ⟨gt, 0, none⟩) n c)) trivial 1 ?_
  clear hH
  rintro _ _ w ⟨B, rfl, rfl⟩ hH
  refine zn ?_
  refine cxBlock ?_
  have hH1 : HH w0 (bks ([bl g 78 (cWk.enc (((A, l.length, z), st, dl), o, 0)), bl gt 5 cur])) [[bl B 23 #[.slice (some ⟨gt, 0, none⟩) n c], bl (B + 1) 3 #[.int .i64 16]], [bl g 78 (cWk.enc (((A, l.length, z), st, dl), o, 0))], [bl gt 5 cur], [bl g1 100 #[(.pointer (some ⟨g, 0, none⟩))]], [bl g2 80 #[(.func (.func 45) #[(cMk.val ((A, l.length, z), st, dl))] #[])]]] w := HH.sel hH [4, 0, 1, 2, 3] rfl (by decide)
  have hH2 : HH w0 (bks ([bl g 78 (cWk.enc (((A, l.length, z), st, dl), o, 0)), bl gt 5 cur])) ([[bl B 23 #[.slice (some ⟨gt, 0, none⟩) n c], bl (B + 1) 3 #[.int .i64 16]]] ++ [[bl g 78 (cWk.enc (((A, l.length, z), st, dl), o, 0)), bl gt 5 cur, bl g1 100 #[(.pointer (some ⟨g, 0, none⟩))], bl g2 80 #[(.func (.func 45) #[(cMk.val ((A, l.length, z), st, dl))] #[])]]]) w := hH1.cast (by simp)
  clear hH1
  have hcB1 : Blk w B 23 #[.slice (some ⟨gt, 0, none⟩) n c] := (hH2.has 0 rfl).blk (bl B 23 #[.slice (some ⟨gt, 0, none⟩) n c]) (by simp)
  have hcB2 : Blk w (B + 1) 3 #[.int .i64 16] := (hH2.has 0 rfl).blk (bl (B + 1) 3 #[.int .i64 16]) (by simp)
  have hB1 := hcB2.lt
  clear hH
  refine cxRange (α := Pts16 n) (S := fun ys => ys.map (·.1) = List.range ((n + 15) / 16)) (N := (n + 15) / 16) (Kp := Kp16 B) (encs := fun x => pv16 gt 0 n x.1) (fun (pre : List (Pts16 n)) E => ∃ cu, E = [bl g 78 (cWk.enc (((A, l.length, z), st, dl), (flO st dl n o (pre.map (·.1))))), bl gt 5 cu, bl g1 100 #[(.pointer (some ⟨g, 0, none⟩))], bl g2 80 #[(.func (.func 45) #[(cMk.val ((A, l.length, z), st, dl))] #[])]] ∧ Bk cByte cap cu (flT (aeE l) (aeE l) st dl n o X (pre.map (·.1))))
    0 hH2 rfl (enters_of Tryz.func28 (by kernel_rfl) rfl) (chk16_stops 2 B gt 0 n c (some ⟨gt, 0, none⟩) w (by omega) (fun _ => rfl) (by omega) (by omega) hcB1 hcB2) (fun h k => h.trans k)
    (fun W l' o o' hl _ _ _ => ⟨World.putObj_heap_other (by omega), World.putObj_heap_other (by omega)⟩)
    (fun W W' h h' => ⟨(h'.blk (bl B 23 #[.slice (some ⟨gt, 0, none⟩) n c]) (by simp)).trans (h.blk (bl B 23 #[.slice (some ⟨gt, 0, none⟩) n c]) (by simp)).symm, (h'.blk (bl (B + 1) 3 #[.int .i64 16]) (by simp)).trans (h.blk (bl (B + 1) 3 #[.int .i64 16]) (by simp)).symm⟩)
    (fun x hx => by simp only [List.flatten_cons, List.flatten_nil, List.append_nil, List.mem_cons, List.not_mem_nil, or_false] at hx; rcases hx with rfl | rfl <;> rfl)
    (fun pre E ⟨_, h, _⟩ x hx => by subst h; simp only [List.mem_cons, List.not_mem_nil, or_false] at hx; rcases hx with rfl | rfl | rfl | rfl <;> rfl)
    ⟨_, rfl, hB⟩ rfl (by decide) (fun a W v h => opAssign rfl h) rfl (fun _ => rfl) rfl rfl (by decide) ?_ ?_
  rintro pre x E W lp ⟨cu, rfl, hBt⟩ hlen hH
  obtain ⟨so, hso⟩ : ∃ q, q = (flO st dl n o (pre.map (·.1))) := ⟨_, rfl⟩
  rw [← hso] at hH ⊢
  obtain ⟨X1, hX1⟩ : ∃ q, q = (flT (aeE l) (aeE l) st dl n o X (pre.map (·.1))) := ⟨_, rfl⟩
  rw [← hX1] at hBt
  have hl1 : X1.length = X.length := by rw [hX1]; exact flT_len hn _ (fun i hi => by obtain ⟨y, _, rfl⟩ := List.mem_map.1 hi; exact y.2)
  have hpl := pl_le n x.1
  have hx2 := x.2
  have hpn : 16 * x.1 + pl16 n x.1 ≤ n := by unfold pl16; omega
  have hle := hBt.le
  have hVk := hH.vu hR.2.2.1 (by decide) hR.2.2.2
  have hok : Off A l.length (bks [bl g 78 (cWk.enc (((A, l.length, z), st, dl), so)), bl gt 5 cu, bl g1 100 #[(.pointer (some ⟨g, 0, none⟩))], bl g2 80 #[(.func (.func 45) #[(cMk.val ((A, l.length, z), st, dl))] #[])]]) := hH.off 1 rfl hR.2.2.1 (by decide) hR.2.2.2
  have hbx := hH.oldBlk hR.1 hb0
  have hbn := hH.freshR 1 rfl (blk_lt hR.1) hb0
  have hdb := hH.oldBlk hR.2.1 hd0
  have hdn := hH.freshR 1 rfl (blk_lt hR.2.1) hd0
  have hcnt : so.2 < 9223372036854775807 := by have h := flO_le (st := st) (dl := dl) (o := o) (n := n) (pre.map (·.1)); rw [List.length_map, ← hso] at h; omega
  replace hH : HH W (bks [bl g 78 (cWk.enc (((A, l.length, z), st, dl), so)), bl gt 5 cu, bl g1 100 #[(.pointer (some ⟨g, 0, none⟩))], bl g2 80 #[(.func (.func 45) #[(cMk.val ((A, l.length, z), st, dl))] #[])]]) [[bl g 78 (cWk.enc (((A, l.length, z), st, dl), so))], [bl gt 5 cu], [bl g1 100 #[(.pointer (some ⟨g, 0, none⟩))]], [bl g2 80 #[(.func (.func 45) #[(cMk.val ((A, l.length, z), st, dl))] #[])]]] W := ((hH.has 1 rfl).start).cast (by simp)
  clear hH2 hcB1 hcB2 hB1
  obtain ⟨w0, rfl⟩ : ∃ u, u = W := ⟨_, rfl⟩
  show CXi lp _ _ _ ⟨61, []⟩ [(6, (.slice (some ⟨gt, 0 + 16 * x.1, none⟩) (pl16 n x.1) (pl16 n x.1))), (11, (.func (.func 28) #[] #[(.pointer (some ⟨B, 0, none⟩)), (.pointer (some ⟨(B + 1), 0, none⟩))])), (5, (.pointer (some ⟨g2, 0, none⟩))), (3, (.pointer (some ⟨g1, 0, none⟩)))] _
  rw [show 0 + 16 * x.1 = 0 + 16 * x.1 * 1 by omega]
  refine cxBlockI ?_
  refine zrI ?_
  refine zs (hH.q 2 rfl) .lc 2 ?_
  refine zv .mv 0 ?_
  refine ze 0 hH rfl (.call Tryz.func63 (goto_c g (A, l.length, z) st dl so hcnt (some ⟨gt, 0 + 16 * x.1 * 1, none⟩) n x.1 (pl16 n x.1))) (hH.oldBlk hdb hdn) 3 ?_
  clear hH
  rintro _ _ w ⟨rfl, rfl⟩ hH
  refine znI ?_
  refine cxSeqI ?_
  refine zrI ?_
  refine zv .mv 1 ?_
  refine zv .len 1 ?_
  refine zv (.lt ((pl16 n x.1) < 16)) 1 ?_
  refine znI ?_
  refine zPI (fun hc3 => ?_) (fun hc3 => ?_)
  refine zxI ?_
  replace hH := hH.drew
  refine rxPg 0 [ldv 0 19 [] [] [1002] fun G => (.pointer (some ⟨g, 0, none⟩)), pv 1 20 [0] [] fun G => (.pointer (some ⟨g, 0, none⟩)), pv 2 21 [1] [] fun G => (.pointer (some ⟨g, 0, none⟩)), ldv 3 22 [2] [] [1000] fun G => (cMk.val ((A, l.length, z), st, dl)), ldv 4 23 [] [] [1002] fun G => (.pointer (some ⟨g, 0, none⟩)), pv 5 24 [4] [] fun G => (.pointer (some ⟨g, 0, none⟩)), pv 6 25 [5] [] fun G => (.pointer (some ⟨g, 33, none⟩)), ldv 7 26 [6] [] [1000] fun G => ((cArr 16).val ((nxO st dl n so x.1).1)), pv 8 27 [3, 7] [] fun G => ((cArr 16).val (aeE l ((nxO st dl n so x.1).1))), alv 9 7 [] [] fun G g => [bl g 61 ((cArr 16).enc (fun _ => 0))], stv 10 [8, 9] [9] 9 fun G => [bl (G 9).g 61 ((cArr 16).enc (aeE l ((nxO st dl n so x.1).1)))]] (fun G => [(7, (.pointer (some ⟨(G 9).g, 0, none⟩))), (6, (.slice (some ⟨gt, 0 + 16 * x.1 * 1, none⟩) (pl16 n x.1) (pl16 n x.1)))]) (fun G => [[bl g 78 (cWk.enc (((A, l.length, z), st, dl), nxO st dl n so x.1))], [bl gt 5 cu], [bl g1 100 #[(.pointer (some ⟨g, 0, none⟩))]], [bl g2 80 #[(.func (.func 45) #[(cMk.val ((A, l.length, z), st, dl))] #[])]], [bl (G 9).g 61 ((cArr 16).enc (aeE l ((nxO st dl n so x.1).1)))]]) hH (.c (.ld (fun G _ _ hH => (hH.q 0 rfl)) fun G => .lc) <| .c (.v fun G => .nc) <| .c (.v fun G => (.fld 0)) <| .c (.ld (fun G _ _ hH => (hH.q 0 rfl)) fun G => (.ld cMk ((A, l.length, z), st, dl) (fun _ hS => (holds_blk0 hS).fst))) <| .c (.ld (fun G _ _ hH => (hH.q 0 rfl)) fun G => .lc) <| .c (.v fun G => .nc) <| .c (.v fun G => (.fld 33)) <| .c (.ld (fun G _ _ hH => (hH.q 0 rfl)) fun G => (.ld (cArr 16) ((nxO st dl n so x.1).1) (fun _ hS => ((holds_blk0 hS).snd).fst))) <| .c (Sp.cr Tryz.func45 (fun G => (maeE_c A z l hk st dl ((nxO st dl n so x.1).1))) fun _ _ hH => ⟨(hH.oldBlk hbx hbn), (hH.vu hVk (by decide) hok)⟩) <| .c (.a (fun _ _ _ _ => trivial) (fun G => (.al (cArr 16) (fun _ => 0))) fun _ _ _ h => h) <| .c (.tn (fun G => (.sw (cArr 16) (fun _ => 0) (aeE l ((nxO st dl n so x.1).1)))) (fun _ _ _ _ => trivial) fun _ _ _ h => h) <| .nil) ?_
  clear hH
  rintro G w - hH
  revert hH
  generalize (G 9).g = g4
  intro hH
  refine rnI ?_
  refine cxSeqI ?_
  refine zrI ?_
  refine zv .mv 0 ?_
  refine zv .len 1 ?_
  refine zv .mv 0 ?_
  refine znI ?_
  refine cxBlockI ?_
  refine zL3I (fun (i : Nat) (_ : List UInt8) (_ : Array Value) => [(30, (.int .i64 (((i) : Nat) : Int))), (29, (.int .i64 ((((pl16 n x.1)) : Nat) : Int))), (7, (.pointer (some ⟨g4, 0, none⟩))), (6, (.slice (some ⟨gt, 0 + 16 * x.1 * 1, none⟩) (pl16 n x.1) (pl16 n x.1)))]) (fun i L cur' w => HH w0 (bks [bl g 78 (cWk.enc (((A, l.length, z), st, dl), so)), bl gt 5 cu, bl g1 100 #[(.pointer (some ⟨g, 0, none⟩))], bl g2 80 #[(.func (.func 45) #[(cMk.val ((A, l.length, z), st, dl))] #[])]]) [[bl g 78 (cWk.enc (((A, l.length, z), st, dl), nxO st dl n so x.1))], [bl gt 5 cur'], [bl g1 100 #[(.pointer (some ⟨g, 0, none⟩))]], [bl g2 80 #[(.func (.func 45) #[(cMk.val ((A, l.length, z), st, dl))] #[])]], [bl g4 61 ((cArr 16).enc (aeE l ((nxO st dl n so x.1).1)))]] w ∧ (i ≤ pl16 n x.1) ∧ (Bk cByte cap cur' L) ∧ (L.length = X.length) ∧ (L = X1.take (16 * x.1) ++ (lst i (added (cutF X1 (16 * x.1)) (aeE l (nxO st dl n so x.1).1)) ++ X1.drop (16 * x.1 + i)))) (fun i _ _ => pl16 n x.1 - i) 0 X1 cu ⟨hH, (Nat.zero_le _), hBt, hl1, (by rw [Nat.add_zero]; exact (List.take_append_drop _ _).symm)⟩ ?_
  clear hH
  rintro i L cur' w ⟨hH, hi, hB', hLl, hL⟩
  refine zrI ?_
  refine zv (.lt (i < (pl16 n x.1))) 0 ?_
  refine znI ?_
  refine cxSeqI ?_
  refine zPI (fun hc5 => ?_) (fun hc5 => ?_)
  refine cxSkipI ?_
  refine qxThenI ?_
  refine cxSeqI ?_
  refine cxBlockI ?_
  refine zrI ?_
  refine zv .mv 1 ?_
  refine zv .mv 1 ?_
  refine znI ?_
  refine cxRegXI ?_
  replace hH := hH.drew
  refine rv 0 .mv 0 ?_
  refine rv 1 .mv 0 ?_
  have hi6 : i < (pl16 n x.1) := by omega
  have hj9 : i < ((L.take (16 * x.1 + pl16 n x.1)).drop (16 * x.1)).length := by first | exact hi6 | (simp only [List.length_drop]; omega) | (simp only [List.length_drop, List.length_take]; omega) | omega
  obtain ⟨x7, hx8⟩ := get_at ((L.take (16 * x.1 + pl16 n x.1)).drop (16 * x.1)) i hj9
  have hb10 := UInt8.toNat_lt x7
  refine rv 2 (.ix 1 i (hi := hi6)) 0 ?_
  refine rld 3 (hH.q 1 rfl) (.ld cByte x7 (fun _ hS => (((hB'.holdsL hS).cut (16 * x.1) (16 * x.1 + pl16 n x.1)) i _ hx8))) 1 ?_
  refine rv 4 .mv 8 ?_
  have hi11 : i < 16 := by omega
  refine rv 5 (.ia 1 16 i (hi := hi11)) 1 ?_
  refine rld 6 (hH.q 4 rfl) (.ld cByte ((aeE l ((nxO st dl n so x.1).1)) i) (fun _ hS => ((holds_blk0 hS).elt hi11))) 1 ?_
  refine rv 7 (.xb (x7 ^^^ ((aeE l ((nxO st dl n so x.1).1)) i)) (u := x7) (v := ((aeE l ((nxO st dl n so x.1).1)) i))) 3 ?_
  have hi12 : i < (pl16 n x.1) := by omega
  have hj15 : i < ((L.take (16 * x.1 + pl16 n x.1)).drop (16 * x.1)).length := by first | exact hi12 | (simp only [List.length_drop]; omega) | (simp only [List.length_drop, List.length_take]; omega) | omega
  obtain ⟨x13, hx14⟩ := get_at ((L.take (16 * x.1 + pl16 n x.1)).drop (16 * x.1)) i hj15
  have hb16 := UInt8.toNat_lt x13
  refine rv 8 (.ix 1 i (hi := hi12)) 6 ?_
  have hk20 : (16 * x.1) + i < L.length := by omega
  obtain ⟨cur18, hcs19, hB17⟩ : ∃ cs, putL cur' (0 + (16 * x.1) * 1 + i * 1) (cByte.enc (x7 ^^^ ((aeE l ((nxO st dl n so x.1).1)) i))).toList = cs ∧ Bk cByte cap cs (L.set ((16 * x.1) + i) (x7 ^^^ ((aeE l ((nxO st dl n so x.1).1)) i))) := ⟨_, rfl, put_from hB' (16 * x.1) i hk20 (x7 ^^^ ((aeE l ((nxO st dl n so x.1).1)) i))⟩
  refine rx1k 9 ?_
  refine re0 9 1 hH rfl (fun _ hF => smStoreT (C := cByte) (z := (x7 ^^^ ((aeE l ((nxO st dl n so x.1).1)) i))) rfl (hF.ev 0 rfl) (hF.ev 1 rfl) rfl (by kernel_rfl) (room_from hB' hk20) hcs19) trivial (pgo [] (pgo [] (.nil _ []))) ?_
  clear hH
  rintro _ _ w rfl hH
  refine ⟨pnil, ?_⟩
  refine rxEndI (by kernel_rfl) ?_
  refine qxInN ?_
  refine qxThenI ?_
  refine cxRegI ?_
  refine zv (.add ((i + 1 : Nat) : Int)) 7 ?_
  refine zv .mv 1 ?_
  refine pxEndI ?_
  exact zR3 (i + 1) (L.set ((16 * x.1) + i) (x7 ^^^ ((aeE l ((nxO st dl n so x.1).1)) i))) cur18 ⟨hH, (by omega), hB17, (by rw [List.length_set]; exact hLl), (rst_step hL (p := pl16 n x.1) (by omega) (by omega) hx8)⟩ (by omega)
  refine cxExitI ?_
  refine qxThenE ?_
  refine qxThenE ?_
  refine qxInE ?_
  refine qxThenI ?_
  refine cxExitI ?_
  refine qxThenE ?_
  refine qxInE ?_
  replace hH : HH w0 (bks [bl g 78 (cWk.enc (((A, l.length, z), st, dl), so)), bl gt 5 cu, bl g1 100 #[(.pointer (some ⟨g, 0, none⟩))], bl g2 80 #[(.func (.func 45) #[(cMk.val ((A, l.length, z), st, dl))] #[])]]) [[bl g 78 (cWk.enc (((A, l.length, z), st, dl), nxO st dl n so x.1))], [bl gt 5 cur'], [bl g1 100 #[(.pointer (some ⟨g, 0, none⟩))]], [bl g2 80 #[(.func (.func 45) #[(cMk.val ((A, l.length, z), st, dl))] #[])]]] w := hH.only [true, true, true, true, false]
  have e1 : (nxO st dl n so x.1) = (flO st dl n o ((pre ++ [x]).map (·.1))) := by rw [List.map_append, List.map_cons, List.map_nil, flO_snoc, hso]
  rw [e1] at hH
  have e2 : L = (flT (aeE l) (aeE l) st dl n o X ((pre ++ [x]).map (·.1))) := by
    have e3 := e1; rw [List.map_append, List.map_cons, List.map_nil] at e3; rw [List.map_append, List.map_cons, List.map_nil, flT_snoc, ← hX1, ← e3]
    rw [hL]; unfold nxT; rw [if_pos hc3, show i = pl16 n x.1 by omega]
  exact fun _ _ => ⟨_, ⟨_, rfl, e2 ▸ hB'⟩, by simpa [HH] using hH⟩
  refine cxSkipI ?_
  refine qxThenI ?_
  refine zxI ?_
  replace hH := hH.drew
  refine rxPg 0 [ldv 0 43 [] [] [1003] fun G => (.func (.func 45) #[(cMk.val ((A, l.length, z), st, dl))] #[]), pv 1 44 [] [] fun G => (.slice (some ⟨gt, 0 + 16 * x.1 * 1, none⟩) (pl16 n x.1) (pl16 n x.1)), pv 2 45 [1] [] fun G => (.pointer (some ⟨gt, 0 + 16 * x.1 * 1, none⟩)), ldv 3 46 [2] [] [1001] fun G => ((cArr 16).val (cutF ((X1.take (16 * x.1 + pl16 n x.1)).drop (16 * x.1)) 0)), ldv 4 47 [] [] [1002] fun G => (.pointer (some ⟨g, 0, none⟩)), pv 5 48 [4] [] fun G => (.pointer (some ⟨g, 0, none⟩)), pv 6 49 [5] [] fun G => (.pointer (some ⟨g, 33, none⟩)), ldv 7 50 [6] [] [1000] fun G => ((cArr 16).val ((nxO st dl n so x.1).1)), pv 8 51 [3, 7] [] fun G => ((cArr 16).val (added (cutF ((X1.take (16 * x.1 + pl16 n x.1)).drop (16 * x.1)) 0) ((nxO st dl n so x.1).1))), pv 9 52 [0, 8] [] fun G => ((cArr 16).val (aeE l (added (cutF ((X1.take (16 * x.1 + pl16 n x.1)).drop (16 * x.1)) 0) ((nxO st dl n so x.1).1)))), ldv 10 53 [] [] [1002] fun G => (.pointer (some ⟨g, 0, none⟩)), pv 11 54 [10] [] fun G => (.pointer (some ⟨g, 0, none⟩)), pv 12 55 [11] [] fun G => (.pointer (some ⟨g, 33, none⟩)), ldv 13 56 [12] [] [1000] fun G => ((cArr 16).val ((nxO st dl n so x.1).1)), pv 14 57 [9, 13] [] fun G => ((cArr 16).val (added (aeE l (added (cutF ((X1.take (16 * x.1 + pl16 n x.1)).drop (16 * x.1)) 0) ((nxO st dl n so x.1).1))) ((nxO st dl n so x.1).1))), alv 15 9 [] [] fun G g => [bl g 61 ((cArr 16).enc (fun _ => 0))], stv 16 [14, 15] [15] 15 fun G => [bl (G 15).g 61 ((cArr 16).enc (added (aeE l (added (cutF ((X1.take (16 * x.1 + pl16 n x.1)).drop (16 * x.1)) 0) ((nxO st dl n so x.1).1))) ((nxO st dl n so x.1).1)))]] (fun G => [(9, (.pointer (some ⟨(G 15).g, 0, none⟩))), (6, (.slice (some ⟨gt, 0 + 16 * x.1 * 1, none⟩) (pl16 n x.1) (pl16 n x.1)))]) (fun G => [[bl g 78 (cWk.enc (((A, l.length, z), st, dl), nxO st dl n so x.1))], [bl gt 5 cu], [bl g1 100 #[(.pointer (some ⟨g, 0, none⟩))]], [bl g2 80 #[(.func (.func 45) #[(cMk.val ((A, l.length, z), st, dl))] #[])]], [bl (G 15).g 61 ((cArr 16).enc (added (aeE l (added (cutF ((X1.take (16 * x.1 + pl16 n x.1)).drop (16 * x.1)) 0) ((nxO st dl n so x.1).1))) ((nxO st dl n so x.1).1)))]]) hH (.c (.ld (fun G _ _ hH => (hH.q 0 rfl)) fun G => .lc) <| .c (.v fun G => .mv) <| .c (.v fun G => (fun _ _ hF => opToArray (m := 16) (e := 5) rfl (by kernel_rfl) (hF.ev 0 rfl) (by omega))) <| .c (.ld (fun G _ _ hH => (hH.q 0 rfl)) fun G => (.ld (cArr 16) (cutF ((X1.take (16 * x.1 + pl16 n x.1)).drop (16 * x.1)) 0) (fun _ hS => (((hBt.holdsL hS).cut (16 * x.1) (16 * x.1 + pl16 n x.1)).arr 0 16 (by first | omega | (rw [lst_len]; omega) | (simp only [List.length_drop, List.length_take]; omega) | (simp only [List.length_drop, List.length_take, lst_len]; omega)))))) <| .c (.ld (fun G _ _ hH => (hH.q 0 rfl)) fun G => .lc) <| .c (.v fun G => .nc) <| .c (.v fun G => (.fld 33)) <| .c (.ld (fun G _ _ hH => (hH.q 0 rfl)) fun G => (.ld (cArr 16) ((nxO st dl n so x.1).1) (fun _ hS => ((holds_blk0 hS).snd).fst))) <| .c (Sp.c Tryz.func64 (fun G => (xor_c (cutF ((X1.take (16 * x.1 + pl16 n x.1)).drop (16 * x.1)) 0) ((nxO st dl n so x.1).1))) fun _ => trivial) <| .c (Sp.cb (cp := [(cMk.val ((A, l.length, z), st, dl))]) Tryz.func45 (fun G => (maeE_c A z l hk st dl (added (cutF ((X1.take (16 * x.1 + pl16 n x.1)).drop (16 * x.1)) 0) ((nxO st dl n so x.1).1)))) fun _ _ hH => ⟨(hH.oldBlk hbx hbn), (hH.vu hVk (by decide) hok)⟩) <| .c (.ld (fun G _ _ hH => (hH.q 0 rfl)) fun G => .lc) <| .c (.v fun G => .nc) <| .c (.v fun G => (.fld 33)) <| .c (.ld (fun G _ _ hH => (hH.q 0 rfl)) fun G => (.ld (cArr 16) ((nxO st dl n so x.1).1) (fun _ hS => ((holds_blk0 hS).snd).fst))) <| .c (Sp.c Tryz.func64 (fun G => (xor_c (aeE l (added (cutF ((X1.take (16 * x.1 + pl16 n x.1)).drop (16 * x.1)) 0) ((nxO st dl n so x.1).1))) ((nxO st dl n so x.1).1))) fun _ => trivial) <| .c (.a (fun _ _ _ _ => trivial) (fun G => (.al (cArr 16) (fun _ => 0))) fun _ _ _ h => h) <| .c (.tn (fun G => (.sw (cArr 16) (fun _ => 0) (added (aeE l (added (cutF ((X1.take (16 * x.1 + pl16 n x.1)).drop (16 * x.1)) 0) ((nxO st dl n so x.1).1))) ((nxO st dl n so x.1).1)))) (fun _ _ _ _ => trivial) fun _ _ _ h => h) <| .nil) ?_
  clear hH
  rintro G w - hH
  revert hH
  generalize (G 15).g = g21
  intro hH
  refine rnI ?_
  have hs1 : cByte.sz = 1 := rfl
  have hcz : cu.size = cap * 1 := hBt.size
  have hll : (lst 16 (added (aeE l (added (cutF ((X1.take (16 * x.1 + pl16 n x.1)).drop (16 * x.1)) 0) ((nxO st dl n so x.1).1))) ((nxO st dl n so x.1).1))).length = 16 := lst_len _ _
  refine cxRegI ?_
  refine zv .mv 2 ?_
  refine zv (v := (.slice (some ⟨g21, 0, none⟩) 16 16)) (fun _ _ hF => opSliceA (n := 16) (e := 5) (sz := 1) rfl (by kernel_rfl) (by kernel_rfl) (hF.ev 1 rfl)) 2 ?_
  obtain ⟨cur23, hcs24, hB22⟩ : ∃ cs, putL cu (0 + 16 * x.1 * 1) (flat cByte (lst 16 (added (aeE l (added (cutF ((X1.take (16 * x.1 + pl16 n x.1)).drop (16 * x.1)) 0) ((nxO st dl n so x.1).1))) ((nxO st dl n so x.1).1)))) = cs ∧ Bk cByte cap cs (X1.take (16 * x.1) ++ ((lst 16 (added (aeE l (added (cutF ((X1.take (16 * x.1 + pl16 n x.1)).drop (16 * x.1)) 0) ((nxO st dl n so x.1).1))) ((nxO st dl n so x.1).1))) ++ X1.drop (16 * x.1 + (lst 16 (added (aeE l (added (cutF ((X1.take (16 * x.1 + pl16 n x.1)).drop (16 * x.1)) 0) ((nxO st dl n so x.1).1))) ((nxO st dl n so x.1).1))).length))) := ⟨_, rfl, hBt.copy (16 * x.1) (lst 16 (added (aeE l (added (cutF ((X1.take (16 * x.1 + pl16 n x.1)).drop (16 * x.1)) 0) ((nxO st dl n so x.1).1))) ((nxO st dl n so x.1).1))) (by omega)⟩
  refine ze 1 hH rfl (fun _ hF => smCopyT (C := cByte) (m := (lst 16 (added (aeE l (added (cutF ((X1.take (16 * x.1 + pl16 n x.1)).drop (16 * x.1)) 0) ((nxO st dl n so x.1).1))) ((nxO st dl n so x.1).1)))) (e := 5) rfl (by kernel_rfl) (by kernel_rfl) (ltb rfl) (hF.ev 1 rfl) (hF.ev 0 rfl) (by omega) rfl (by omega) hcs24) (vu_arr (hH.blk 4 rfl)) 3 ?_
  clear hH
  rintro _ _ w ⟨rfl, rfl⟩ hH
  refine pxEndI ?_
  refine qxInN ?_
  replace hH : HH w0 (bks [bl g 78 (cWk.enc (((A, l.length, z), st, dl), so)), bl gt 5 cu, bl g1 100 #[(.pointer (some ⟨g, 0, none⟩))], bl g2 80 #[(.func (.func 45) #[(cMk.val ((A, l.length, z), st, dl))] #[])]]) [[bl g 78 (cWk.enc (((A, l.length, z), st, dl), nxO st dl n so x.1))], [bl gt 5 cur23], [bl g1 100 #[(.pointer (some ⟨g, 0, none⟩))]], [bl g2 80 #[(.func (.func 45) #[(cMk.val ((A, l.length, z), st, dl))] #[])]]] w := hH.only [true, true, true, true, false]
  have e1 : (nxO st dl n so x.1) = (flO st dl n o ((pre ++ [x]).map (·.1))) := by rw [List.map_append, List.map_cons, List.map_nil, flO_snoc, hso]
  rw [e1] at hH
  have e2 : (X1.take (16 * x.1) ++ ((lst 16 (added (aeE l (added (cutF ((X1.take (16 * x.1 + pl16 n x.1)).drop (16 * x.1)) 0) ((nxO st dl n so x.1).1))) ((nxO st dl n so x.1).1))) ++ X1.drop (16 * x.1 + (lst 16 (added (aeE l (added (cutF ((X1.take (16 * x.1 + pl16 n x.1)).drop (16 * x.1)) 0) ((nxO st dl n so x.1).1))) ((nxO st dl n so x.1).1))).length))) = (flT (aeE l) (aeE l) st dl n o X ((pre ++ [x]).map (·.1))) := by
    have e3 := e1; rw [List.map_append, List.map_cons, List.map_nil] at e3; rw [List.map_append, List.map_cons, List.map_nil, flT_snoc, ← hX1, ← e3]
    unfold nxT; rw [if_neg hc3, lst_len]; refine congrArg (X1.take (16 * x.1) ++ ·) (congrArg (· ++ X1.drop (16 * x.1 + 16)) (lst_congr fun j hj => ?_))
    exact wb_E16 (fun x y h => aeE_E16 l (by unfold aeR; omega) h) (fun q hq => part_at (by omega)) j hj
  exact fun _ _ => ⟨_, ⟨_, rfl, e2 ▸ hB22⟩, by simpa [HH] using hH⟩
  rintro xs E D w hxs ⟨cu, rfl, hBt⟩ hH
  replace hH : HH w0 (bks ([bl g 78 (cWk.enc (((A, l.length, z), st, dl), o, 0)), bl gt 5 cur])) [[bl B 23 #[.slice (some ⟨gt, 0, none⟩) n c], bl (B + 1) 3 #[.int .i64 16]], [bl g 78 (cWk.enc (((A, l.length, z), st, dl), (flO st dl n o (xs.map (·.1)))))], [bl gt 5 cu], [bl g1 100 #[(.pointer (some ⟨g, 0, none⟩))]], [bl g2 80 #[(.func (.func 45) #[(cMk.val ((A, l.length, z), st, dl))] #[])]], [(D, .deferred (some []))]] w := hH.cast (by simp)
  clear hH2 hcB1 hcB2 hB1
  rw [hxs, flO_all] at hH
  rw [hxs, flT_all (fun x y h => aeE_E16 l (by unfold aeR; omega) h) hn] at hBt
  refine qxInN ?_
  refine qxDEnd0 5 hH rfl rfl (fun w hH => ?_)
  exact ⟨_, _, rfl, ⟨rfl, _, rfl, hBt⟩, hH.out [false, true, true, false, false, false]⟩

set_option maxHeartbeats 8000000 in
theorem thraeD_c (A : Option Addr) (z : Nat) (l : List UInt8) (hk : l.length = 16 ∨ l.length = 32) (st dl o : Nat → UInt8) (g gt n c cap : Nat) (cur : Array Value) (X : List UInt8) (hB : Bk cByte cap cur X) (hn : n ≤ X.length) (hnc : n ≤ c) (hX : X.length ≤ 140737488355328) : Does Tryz.prog 44 #[(.pointer (some ⟨g, 0, none⟩)), (.slice (some ⟨gt, 0, none⟩) n c), (.func (.func 73) #[(cMk.val ((A, l.length, z), st, dl))] #[])] [bl g 78 (cWk.enc (((A, l.length, z), st, dl), o, 0)), bl gt 5 cur] (fun w => w.heap[2]? = some (.cells ((cArr 256).enc boxF) 105 (0, 0)) ∧ w.heap[4]? = some (.cells ((cArr 64).enc dbF) 104 (0, 0)) ∧ Vu cByte w A l.length z l ∧ Off A l.length [g, gt]) (fun v E' => v = .tuple #[] ∧ ∃ cu, E' = [bl g 78 (cWk.enc (((A, l.length, z), st, dl), ofE st dl o n, n / 16)), bl gt 5 cu] ∧ Bk cByte cap cu (thL (aeD l) (aeE l) st dl o (X.take n) ++ X.drop n)) := by
  refine does_ofM (fn := Tryz.f44) Tryz.func44 rfl Tryz.ntmps44 (Nat.le_of_ble_eq_true rfl) rfl ?_
  intro w0 hH hR
  have hcap := hB.le
  replace hH : HH w0 (bks ([bl g 78 (cWk.enc (((A, l.length, z), st, dl), o, 0)), bl gt 5 cur])) [[bl g 78 (cWk.enc (((A, l.length, z), st, dl), o, 0))], [bl gt 5 cur]] w0 := hH.cast (by simp)
  have hb0 : 2 ∉ (bks ([bl g 78 (cWk.enc (((A, l.length, z), st, dl), o, 0)), bl gt 5 cur])) := not2 (ne_ty hR.1 (hH.blk 0 rfl) rfl) (ne_ty hR.1 (hH.blk 1 rfl) rfl)
  have hd0 : 4 ∉ (bks ([bl g 78 (cWk.enc (((A, l.length, z), st, dl), o, 0)), bl gt 5 cur])) := not2 (ne_ty hR.2.1 (hH.blk 0 rfl) rfl) (ne_ty hR.2.1 (hH.blk 1 rfl) rfl)
  refine zr ?_
  refine zm hH (fun _ hF => smBox rfl (hF.ev 0 rfl) rfl) trivial 1 ?_
  clear hH
  rintro _ _ w ⟨g1, rfl, rfl⟩ hH
  refine zm hH (fun _ hF => smBox rfl (hF.ev 2 rfl) rfl) trivial 4 ?_
  clear hH
  rintro _ _ w ⟨g2, rfl, rfl⟩ hH
  refine zn ?_
  refine zr ?_
  refine zv .mv 4 ?_
  refine zm hH (.call Tryz.func13 (chk16_d (some ⟨gt, 0, none⟩) n c)) trivial 1 ?_
  clear hH
  rintro _ _ w ⟨B, rfl, rfl⟩ hH
  refine zn ?_
  refine cxBlock ?_
  have hH1 : HH w0 (bks ([bl g 78 (cWk.enc (((A, l.length, z), st, dl), o, 0)), bl gt 5 cur])) [[bl B 23 #[.slice (some ⟨gt, 0, none⟩) n c], bl (B + 1) 3 #[.int .i64 16]], [bl g 78 (cWk.enc (((A, l.length, z), st, dl), o, 0))], [bl gt 5 cur], [bl g1 100 #[(.pointer (some ⟨g, 0, none⟩))]], [bl g2 80 #[(.func (.func 73) #[(cMk.val ((A, l.length, z), st, dl))] #[])]]] w := HH.sel hH [4, 0, 1, 2, 3] rfl (by decide)
  have hH2 : HH w0 (bks ([bl g 78 (cWk.enc (((A, l.length, z), st, dl), o, 0)), bl gt 5 cur])) ([[bl B 23 #[.slice (some ⟨gt, 0, none⟩) n c], bl (B + 1) 3 #[.int .i64 16]]] ++ [[bl g 78 (cWk.enc (((A, l.length, z), st, dl), o, 0)), bl gt 5 cur, bl g1 100 #[(.pointer (some ⟨g, 0, none⟩))], bl g2 80 #[(.func (.func 73) #[(cMk.val ((A, l.length, z), st, dl))] #[])]]]) w := hH1.cast (by simp)
  clear hH1
  have hcB1 : Blk w B 23 #[.slice (some ⟨gt, 0, none⟩) n c] := (hH2.has 0 rfl).blk (bl B 23 #[.slice (some ⟨gt, 0, none⟩) n c]) (by simp)
  have hcB2 : Blk w (B + 1) 3 #[.int .i64 16] := (hH2.has 0 rfl).blk (bl (B + 1) 3 #[.int .i64 16]) (by simp)
  have hB1 := hcB2.lt
  clear hH
  refine cxRange (α := Pts16 n) (S := fun ys => ys.map (·.1) = List.range ((n + 15) / 16)) (N := (n + 15) / 16) (Kp := Kp16 B) (encs := fun x => pv16 gt 0 n x.1) (fun (pre : List (Pts16 n)) E => ∃ cu, E = [bl g 78 (cWk.enc (((A, l.length, z), st, dl), (flO st dl n o (pre.map (·.1))))), bl gt 5 cu, bl g1 100 #[(.pointer (some ⟨g, 0, none⟩))], bl g2 80 #[(.func (.func 73) #[(cMk.val ((A, l.length, z), st, dl))] #[])]] ∧ Bk cByte cap cu (flT (aeD l) (aeE l) st dl n o X (pre.map (·.1))))
    0 hH2 rfl (enters_of Tryz.func28 (by kernel_rfl) rfl) (chk16_stops 2 B gt 0 n c (some ⟨gt, 0, none⟩) w (by omega) (fun _ => rfl) (by omega) (by omega) hcB1 hcB2) (fun h k => h.trans k)
    (fun W l' o o' hl _ _ _ => ⟨World.putObj_heap_other (by omega), World.putObj_heap_other (by omega)⟩)
    (fun W W' h h' => ⟨(h'.blk (bl B 23 #[.slice (some ⟨gt, 0, none⟩) n c]) (by simp)).trans (h.blk (bl B 23 #[.slice (some ⟨gt, 0, none⟩) n c]) (by simp)).symm, (h'.blk (bl (B + 1) 3 #[.int .i64 16]) (by simp)).trans (h.blk (bl (B + 1) 3 #[.int .i64 16]) (by simp)).symm⟩)
    (fun x hx => by simp only [List.flatten_cons, List.flatten_nil, List.append_nil, List.mem_cons, List.not_mem_nil, or_false] at hx; rcases hx with rfl | rfl <;> rfl)
    (fun pre E ⟨_, h, _⟩ x hx => by subst h; simp only [List.mem_cons, List.not_mem_nil, or_false] at hx; rcases hx with rfl | rfl | rfl | rfl <;> rfl)
    ⟨_, rfl, hB⟩ rfl (by decide) (fun a W v h => opAssign rfl h) rfl (fun _ => rfl) rfl rfl (by decide) ?_ ?_
  rintro pre x E W lp ⟨cu, rfl, hBt⟩ hlen hH
  obtain ⟨so, hso⟩ : ∃ q, q = (flO st dl n o (pre.map (·.1))) := ⟨_, rfl⟩
  rw [← hso] at hH ⊢
  obtain ⟨X1, hX1⟩ : ∃ q, q = (flT (aeD l) (aeE l) st dl n o X (pre.map (·.1))) := ⟨_, rfl⟩
  rw [← hX1] at hBt
  have hl1 : X1.length = X.length := by rw [hX1]; exact flT_len hn _ (fun i hi => by obtain ⟨y, _, rfl⟩ := List.mem_map.1 hi; exact y.2)
  have hpl := pl_le n x.1
  have hx2 := x.2
  have hpn : 16 * x.1 + pl16 n x.1 ≤ n := by unfold pl16; omega
  have hle := hBt.le
  have hVk := hH.vu hR.2.2.1 (by decide) hR.2.2.2
  have hok : Off A l.length (bks [bl g 78 (cWk.enc (((A, l.length, z), st, dl), so)), bl gt 5 cu, bl g1 100 #[(.pointer (some ⟨g, 0, none⟩))], bl g2 80 #[(.func (.func 73) #[(cMk.val ((A, l.length, z), st, dl))] #[])]]) := hH.off 1 rfl hR.2.2.1 (by decide) hR.2.2.2
  have hbx := hH.oldBlk hR.1 hb0
  have hbn := hH.freshR 1 rfl (blk_lt hR.1) hb0
  have hdb := hH.oldBlk hR.2.1 hd0
  have hdn := hH.freshR 1 rfl (blk_lt hR.2.1) hd0
  have hcnt : so.2 < 9223372036854775807 := by have h := flO_le (st := st) (dl := dl) (o := o) (n := n) (pre.map (·.1)); rw [List.length_map, ← hso] at h; omega
  replace hH : HH W (bks [bl g 78 (cWk.enc (((A, l.length, z), st, dl), so)), bl gt 5 cu, bl g1 100 #[(.pointer (some ⟨g, 0, none⟩))], bl g2 80 #[(.func (.func 73) #[(cMk.val ((A, l.length, z), st, dl))] #[])]]) [[bl g 78 (cWk.enc (((A, l.length, z), st, dl), so))], [bl gt 5 cu], [bl g1 100 #[(.pointer (some ⟨g, 0, none⟩))]], [bl g2 80 #[(.func (.func 73) #[(cMk.val ((A, l.length, z), st, dl))] #[])]]] W := ((hH.has 1 rfl).start).cast (by simp)
  clear hH2 hcB1 hcB2 hB1
  obtain ⟨w0, rfl⟩ : ∃ u, u = W := ⟨_, rfl⟩
  show CXi lp _ _ _ ⟨61, []⟩ [(6, (.slice (some ⟨gt, 0 + 16 * x.1, none⟩) (pl16 n x.1) (pl16 n x.1))), (11, (.func (.func 28) #[] #[(.pointer (some ⟨B, 0, none⟩)), (.pointer (some ⟨(B + 1), 0, none⟩))])), (5, (.pointer (some ⟨g2, 0, none⟩))), (3, (.pointer (some ⟨g1, 0, none⟩)))] _
  rw [show 0 + 16 * x.1 = 0 + 16 * x.1 * 1 by omega]
  refine cxBlockI ?_
  refine zrI ?_
  refine zs (hH.q 2 rfl) .lc 2 ?_
  refine zv .mv 0 ?_
  refine ze 0 hH rfl (.call Tryz.func63 (goto_c g (A, l.length, z) st dl so hcnt (some ⟨gt, 0 + 16 * x.1 * 1, none⟩) n x.1 (pl16 n x.1))) (hH.oldBlk hdb hdn) 3 ?_
  clear hH
  rintro _ _ w ⟨rfl, rfl⟩ hH
  refine znI ?_
  refine cxSeqI ?_
  refine zrI ?_
  refine zv .mv 1 ?_
  refine zv .len 1 ?_
  refine zv (.lt ((pl16 n x.1) < 16)) 1 ?_
  refine znI ?_
  refine zPI (fun hc3 => ?_) (fun hc3 => ?_)
  refine zxI ?_
  replace hH := hH.drew
  refine rxPg 0 [ldv 0 19 [] [] [1002] fun G => (.pointer (some ⟨g, 0, none⟩)), pv 1 20 [0] [] fun G => (.pointer (some ⟨g, 0, none⟩)), pv 2 21 [1] [] fun G => (.pointer (some ⟨g, 0, none⟩)), ldv 3 22 [2] [] [1000] fun G => (cMk.val ((A, l.length, z), st, dl)), ldv 4 23 [] [] [1002] fun G => (.pointer (some ⟨g, 0, none⟩)), pv 5 24 [4] [] fun G => (.pointer (some ⟨g, 0, none⟩)), pv 6 25 [5] [] fun G => (.pointer (some ⟨g, 33, none⟩)), ldv 7 26 [6] [] [1000] fun G => ((cArr 16).val ((nxO st dl n so x.1).1)), pv 8 27 [3, 7] [] fun G => ((cArr 16).val (aeE l ((nxO st dl n so x.1).1))), alv 9 7 [] [] fun G g => [bl g 61 ((cArr 16).enc (fun _ => 0))], stv 10 [8, 9] [9] 9 fun G => [bl (G 9).g 61 ((cArr 16).enc (aeE l ((nxO st dl n so x.1).1)))]] (fun G => [(7, (.pointer (some ⟨(G 9).g, 0, none⟩))), (6, (.slice (some ⟨gt, 0 + 16 * x.1 * 1, none⟩) (pl16 n x.1) (pl16 n x.1)))]) (fun G => [[bl g 78 (cWk.enc (((A, l.length, z), st, dl), nxO st dl n so x.1))], [bl gt 5 cu], [bl g1 100 #[(.pointer (some ⟨g, 0, none⟩))]], [bl g2 80 #[(.func (.func 73) #[(cMk.val ((A, l.length, z), st, dl))] #[])]], [bl (G 9).g 61 ((cArr 16).enc (aeE l ((nxO st dl n so x.1).1)))]]) hH (.c (.ld (fun G _ _ hH => (hH.q 0 rfl)) fun G => .lc) <| .c (.v fun G => .nc) <| .c (.v fun G => (.fld 0)) <| .c (.ld (fun G _ _ hH => (hH.q 0 rfl)) fun G => (.ld cMk ((A, l.length, z), st, dl) (fun _ hS => (holds_blk0 hS).fst))) <| .c (.ld (fun G _ _ hH => (hH.q 0 rfl)) fun G => .lc) <| .c (.v fun G => .nc) <| .c (.v fun G => (.fld 33)) <| .c (.ld (fun G _ _ hH => (hH.q 0 rfl)) fun G => (.ld (cArr 16) ((nxO st dl n so x.1).1) (fun _ hS => ((holds_blk0 hS).snd).fst))) <| .c (Sp.cr Tryz.func45 (fun G => (maeE_c A z l hk st dl ((nxO st dl n so x.1).1))) fun _ _ hH => ⟨(hH.oldBlk hbx hbn), (hH.vu hVk (by decide) hok)⟩) <| .c (.a (fun _ _ _ _ => trivial) (fun G => (.al (cArr 16) (fun _ => 0))) fun _ _ _ h => h) <| .c (.tn (fun G => (.sw (cArr 16) (fun _ => 0) (aeE l ((nxO st dl n so x.1).1)))) (fun _ _ _ _ => trivial) fun _ _ _ h => h) <| .nil) ?_
  clear hH
  rintro G w - hH
  revert hH
  generalize (G 9).g = g4
  intro hH
  refine rnI ?_
  refine cxSeqI ?_
  refine zrI ?_
  refine zv .mv 0 ?_
  refine zv .len 1 ?_
  refine zv .mv 0 ?_
  refine znI ?_
  refine cxBlockI ?_
  refine zL3I (fun (i : Nat) (_ : List UInt8) (_ : Array Value) => [(30, (.int .i64 (((i) : Nat) : Int))), (29, (.int .i64 ((((pl16 n x.1)) : Nat) : Int))), (7, (.pointer (some ⟨g4, 0, none⟩))), (6, (.slice (some ⟨gt, 0 + 16 * x.1 * 1, none⟩) (pl16 n x.1) (pl16 n x.1)))]) (fun i L cur' w => HH w0 (bks [bl g 78 (cWk.enc (((A, l.length, z), st, dl), so)), bl gt 5 cu, bl g1 100 #[(.pointer (some ⟨g, 0, none⟩))], bl g2 80 #[(.func (.func 73) #[(cMk.val ((A, l.length, z), st, dl))] #[])]]) [[bl g 78 (cWk.enc (((A, l.length, z), st, dl), nxO st dl n so x.1))], [bl gt 5 cur'], [bl g1 100 #[(.pointer (some ⟨g, 0, none⟩))]], [bl g2 80 #[(.func (.func 73) #[(cMk.val ((A, l.length, z), st, dl))] #[])]], [bl g4 61 ((cArr 16).enc (aeE l ((nxO st dl n so x.1).1)))]] w ∧ (i ≤ pl16 n x.1) ∧ (Bk cByte cap cur' L) ∧ (L.length = X.length) ∧ (L = X1.take (16 * x.1) ++ (lst i (added (cutF X1 (16 * x.1)) (aeE l (nxO st dl n so x.1).1)) ++ X1.drop (16 * x.1 + i)))) (fun i _ _ => pl16 n x.1 - i) 0 X1 cu ⟨hH, (Nat.zero_le _), hBt, hl1, (by rw [Nat.add_zero]; exact (List.take_append_drop _ _).symm)⟩ ?_
  clear hH
  rintro i L cur' w ⟨hH, hi, hB', hLl, hL⟩
  refine zrI ?_
  refine zv (.lt (i < (pl16 n x.1))) 0 ?_
  refine znI ?_
  refine cxSeqI ?_
  refine zPI (fun hc5 => ?_) (fun hc5 => ?_)
  refine cxSkipI ?_
  refine qxThenI ?_
  refine cxSeqI ?_
  refine cxBlockI ?_
  refine zrI ?_
  refine zv .mv 1 ?_
  refine zv .mv 1 ?_
  refine znI ?_
  refine cxRegXI ?_
  replace hH := hH.drew
  refine rv 0 .mv 0 ?_
  refine rv 1 .mv 0 ?_
  have hi6 : i < (pl16 n x.1) := by omega
  have hj9 : i < ((L.take (16 * x.1 + pl16 n x.1)).drop (16 * x.1)).length := by first | exact hi6 | (simp only [List.length_drop]; omega) | (simp only [List.length_drop, List.length_take]; omega) | omega
  obtain ⟨x7, hx8⟩ := get_at ((L.take (16 * x.1 + pl16 n x.1)).drop (16 * x.1)) i hj9
  have hb10 := UInt8.toNat_lt x7
  refine rv 2 (.ix 1 i (hi := hi6)) 0 ?_
  refine rld 3 (hH.q 1 rfl) (.ld cByte x7 (fun _ hS => (((hB'.holdsL hS).cut (16 * x.1) (16 * x.1 + pl16 n x.1)) i _ hx8))) 1 ?_
  refine rv 4 .mv 8 ?_
  have hi11 : i < 16 := by omega
  refine rv 5 (.ia 1 16 i (hi := hi11)) 1 ?_
  refine rld 6 (hH.q 4 rfl) (.ld cByte ((aeE l ((nxO st dl n so x.1).1)) i) (fun _ hS => ((holds_blk0 hS).elt hi11))) 1 ?_
  refine rv 7 (.xb (x7 ^^^ ((aeE l ((nxO st dl n so x.1).1)) i)) (u := x7) (v := ((aeE l ((nxO st dl n so x.1).1)) i))) 3 ?_
  have hi12 : i < (pl16 n x.1) := by omega
  have hj15 : i < ((L.take (16 * x.1 + pl16 n x.1)).drop (16 * x.1)).length := by first | exact hi12 | (simp only [List.length_drop]; omega) | (simp only [List.length_drop, List.length_take]; omega) | omega
  obtain ⟨x13, hx14⟩ := get_at ((L.take (16 * x.1 + pl16 n x.1)).drop (16 * x.1)) i hj15
  have hb16 := UInt8.toNat_lt x13
  refine rv 8 (.ix 1 i (hi := hi12)) 6 ?_
  have hk20 : (16 * x.1) + i < L.length := by omega
  obtain ⟨cur18, hcs19, hB17⟩ : ∃ cs, putL cur' (0 + (16 * x.1) * 1 + i * 1) (cByte.enc (x7 ^^^ ((aeE l ((nxO st dl n so x.1).1)) i))).toList = cs ∧ Bk cByte cap cs (L.set ((16 * x.1) + i) (x7 ^^^ ((aeE l ((nxO st dl n so x.1).1)) i))) := ⟨_, rfl, put_from hB' (16 * x.1) i hk20 (x7 ^^^ ((aeE l ((nxO st dl n so x.1).1)) i))⟩
  refine rx1k 9 ?_
  refine re0 9 1 hH rfl (fun _ hF => smStoreT (C := cByte) (z := (x7 ^^^ ((aeE l ((nxO st dl n so x.1).1)) i))) rfl (hF.ev 0 rfl) (hF.ev 1 rfl) rfl (by kernel_rfl) (room_from hB' hk20) hcs19) trivial (pgo [] (pgo [] (.nil _ []))) ?_
  clear hH
  rintro _ _ w rfl hH
  refine ⟨pnil, ?_⟩
  refine rxEndI (by kernel_rfl) ?_
  refine qxInN ?_
  refine qxThenI ?_
  refine cxRegI ?_
  refine zv (.add ((i + 1 : Nat) : Int)) 7 ?_
  refine zv .mv 1 ?_
  refine pxEndI ?_
  exact zR3 (i + 1) (L.set ((16 * x.1) + i) (x7 ^^^ ((aeE l ((nxO st dl n so x.1).1)) i))) cur18 ⟨hH, (by omega), hB17, (by rw [List.length_set]; exact hLl), (rst_step hL (p := pl16 n x.1) (by omega) (by omega) hx8)⟩ (by omega)
  refine cxExitI ?_
  refine qxThenE ?_
  refine qxThenE ?_
  refine qxInE ?_
  refine qxThenI ?_
  refine cxExitI ?_
  refine qxThenE ?_
  refine qxInE ?_
  replace hH : HH w0 (bks [bl g 78 (cWk.enc (((A, l.length, z), st, dl), so)), bl gt 5 cu, bl g1 100 #[(.pointer (some ⟨g, 0, none⟩))], bl g2 80 #[(.func (.func 73) #[(cMk.val ((A, l.length, z), st, dl))] #[])]]) [[bl g 78 (cWk.enc (((A, l.length, z), st, dl), nxO st dl n so x.1))], [bl gt 5 cur'], [bl g1 100 #[(.pointer (some ⟨g, 0, none⟩))]], [bl g2 80 #[(.func (.func 73) #[(cMk.val ((A, l.length, z), st, dl))] #[])]]] w := hH.only [true, true, true, true, false]
  have e1 : (nxO st dl n so x.1) = (flO st dl n o ((pre ++ [x]).map (·.1))) := by rw [List.map_append, List.map_cons, List.map_nil, flO_snoc, hso]
  rw [e1] at hH
  have e2 : L = (flT (aeD l) (aeE l) st dl n o X ((pre ++ [x]).map (·.1))) := by
    have e3 := e1; rw [List.map_append, List.map_cons, List.map_nil] at e3; rw [List.map_append, List.map_cons, List.map_nil, flT_snoc, ← hX1, ← e3]
    rw [hL]; unfold nxT; rw [if_pos hc3, show i = pl16 n x.1 by omega]
  exact fun _ _ => ⟨_, ⟨_, rfl, e2 ▸ hB'⟩, by simpa [HH] using hH⟩
  refine cxSkipI ?_
  refine qxThenI ?_
  refine zxI ?_
  replace hH := hH.drew
  refine rxPg 0 [ldv 0 43 [] [] [1003] fun G => (.func (.func 73) #[(cMk.val ((A, l.length, z), st, dl))] #[]), pv 1 44 [] [] fun G => (.slice (some ⟨gt, 0 + 16 * x.1 * 1, none⟩) (pl16 n x.1) (pl16 n x.1)), pv 2 45 [1] [] fun G => (.pointer (some ⟨gt, 0 + 16 * x.1 * 1, none⟩)), ldv 3 46 [2] [] [1001] fun G => ((cArr 16).val (cutF ((X1.take (16 * x.1 + pl16 n x.1)).drop (16 * x.1)) 0)), ldv 4 47 [] [] [1002] fun G => (.pointer (some ⟨g, 0, none⟩)), pv 5 48 [4] [] fun G => (.pointer (some ⟨g, 0, none⟩)), pv 6 49 [5] [] fun G => (.pointer (some ⟨g, 33, none⟩)), ldv 7 50 [6] [] [1000] fun G => ((cArr 16).val ((nxO st dl n so x.1).1)), pv 8 51 [3, 7] [] fun G => ((cArr 16).val (added (cutF ((X1.take (16 * x.1 + pl16 n x.1)).drop (16 * x.1)) 0) ((nxO st dl n so x.1).1))), pv 9 52 [0, 8] [] fun G => ((cArr 16).val (aeD l (added (cutF ((X1.take (16 * x.1 + pl16 n x.1)).drop (16 * x.1)) 0) ((nxO st dl n so x.1).1)))), ldv 10 53 [] [] [1002] fun G => (.pointer (some ⟨g, 0, none⟩)), pv 11 54 [10] [] fun G => (.pointer (some ⟨g, 0, none⟩)), pv 12 55 [11] [] fun G => (.pointer (some ⟨g, 33, none⟩)), ldv 13 56 [12] [] [1000] fun G => ((cArr 16).val ((nxO st dl n so x.1).1)), pv 14 57 [9, 13] [] fun G => ((cArr 16).val (added (aeD l (added (cutF ((X1.take (16 * x.1 + pl16 n x.1)).drop (16 * x.1)) 0) ((nxO st dl n so x.1).1))) ((nxO st dl n so x.1).1))), alv 15 9 [] [] fun G g => [bl g 61 ((cArr 16).enc (fun _ => 0))], stv 16 [14, 15] [15] 15 fun G => [bl (G 15).g 61 ((cArr 16).enc (added (aeD l (added (cutF ((X1.take (16 * x.1 + pl16 n x.1)).drop (16 * x.1)) 0) ((nxO st dl n so x.1).1))) ((nxO st dl n so x.1).1)))]] (fun G => [(9, (.pointer (some ⟨(G 15).g, 0, none⟩))), (6, (.slice (some ⟨gt, 0 + 16 * x.1 * 1, none⟩) (pl16 n x.1) (pl16 n x.1)))]) (fun G => [[bl g 78 (cWk.enc (((A, l.length, z), st, dl), nxO st dl n so x.1))], [bl gt 5 cu], [bl g1 100 #[(.pointer (some ⟨g, 0, none⟩))]], [bl g2 80 #[(.func (.func 73) #[(cMk.val ((A, l.length, z), st, dl))] #[])]], [bl (G 15).g 61 ((cArr 16).enc (added (aeD l (added (cutF ((X1.take (16 * x.1 + pl16 n x.1)).drop (16 * x.1)) 0) ((nxO st dl n so x.1).1))) ((nxO st dl n so x.1).1)))]]) hH (.c (.ld (fun G _ _ hH => (hH.q 0 rfl)) fun G => .lc) <| .c (.v fun G => .mv) <| .c (.v fun G => (fun _ _ hF => opToArray (m := 16) (e := 5) rfl (by kernel_rfl) (hF.ev 0 rfl) (by omega))) <| .c (.ld (fun G _ _ hH => (hH.q 0 rfl)) fun G => (.ld (cArr 16) (cutF ((X1.take (16 * x.1 + pl16 n x.1)).drop (16 * x.1)) 0) (fun _ hS => (((hBt.holdsL hS).cut (16 * x.1) (16 * x.1 + pl16 n x.1)).arr 0 16 (by first | omega | (rw [lst_len]; omega) | (simp only [List.length_drop, List.length_take]; omega) | (simp only [List.length_drop, List.length_take, lst_len]; omega)))))) <| .c (.ld (fun G _ _ hH => (hH.q 0 rfl)) fun G => .lc) <| .c (.v fun G => .nc) <| .c (.v fun G => (.fld 33)) <| .c (.ld (fun G _ _ hH => (hH.q 0 rfl)) fun G => (.ld (cArr 16) ((nxO st dl n so x.1).1) (fun _ hS => ((holds_blk0 hS).snd).fst))) <| .c (Sp.c Tryz.func64 (fun G => (xor_c (cutF ((X1.take (16 * x.1 + pl16 n x.1)).drop (16 * x.1)) 0) ((nxO st dl n so x.1).1))) fun _ => trivial) <| .c (Sp.cb (cp := [(cMk.val ((A, l.length, z), st, dl))]) Tryz.func73 (fun G => (maeD_c A z l hk st dl (added (cutF ((X1.take (16 * x.1 + pl16 n x.1)).drop (16 * x.1)) 0) ((nxO st dl n so x.1).1)))) fun _ _ hH => ⟨(hH.oldBlk hbx hbn), (hH.vu hVk (by decide) hok)⟩) <| .c (.ld (fun G _ _ hH => (hH.q 0 rfl)) fun G => .lc) <| .c (.v fun G => .nc) <| .c (.v fun G => (.fld 33)) <| .c (.ld (fun G _ _ hH => (hH.q 0 rfl)) fun G => (.ld (cArr 16) ((nxO st dl n so x.1).1) (fun _ hS => ((holds_blk0 hS).snd).fst))) <| .c (Sp.c Tryz.func64 (fun G => (xor_c (aeD l (added (cutF ((X1.take (16 * x.1 + pl16 n x.1)).drop (16 * x.1)) 0) ((nxO st dl n so x.1).1))) ((nxO st dl n so x.1).1))) fun _ => trivial) <| .c (.a (fun _ _ _ _ => trivial) (fun G => (.al (cArr 16) (fun _ => 0))) fun _ _ _ h => h) <| .c (.tn (fun G => (.sw (cArr 16) (fun _ => 0) (added (aeD l (added (cutF ((X1.take (16 * x.1 + pl16 n x.1)).drop (16 * x.1)) 0) ((nxO st dl n so x.1).1))) ((nxO st dl n so x.1).1)))) (fun _ _ _ _ => trivial) fun _ _ _ h => h) <| .nil) ?_
  clear hH
  rintro G w - hH
  revert hH
  generalize (G 15).g = g21
  intro hH
  refine rnI ?_
  have hs1 : cByte.sz = 1 := rfl
  have hcz : cu.size = cap * 1 := hBt.size
  have hll : (lst 16 (added (aeD l (added (cutF ((X1.take (16 * x.1 + pl16 n x.1)).drop (16 * x.1)) 0) ((nxO st dl n so x.1).1))) ((nxO st dl n so x.1).1))).length = 16 := lst_len _ _
  refine cxRegI ?_
  refine zv .mv 2 ?_
  refine zv (v := (.slice (some ⟨g21, 0, none⟩) 16 16)) (fun _ _ hF => opSliceA (n := 16) (e := 5) (sz := 1) rfl (by kernel_rfl) (by kernel_rfl) (hF.ev 1 rfl)) 2 ?_
  obtain ⟨cur23, hcs24, hB22⟩ : ∃ cs, putL cu (0 + 16 * x.1 * 1) (flat cByte (lst 16 (added (aeD l (added (cutF ((X1.take (16 * x.1 + pl16 n x.1)).drop (16 * x.1)) 0) ((nxO st dl n so x.1).1))) ((nxO st dl n so x.1).1)))) = cs ∧ Bk cByte cap cs (X1.take (16 * x.1) ++ ((lst 16 (added (aeD l (added (cutF ((X1.take (16 * x.1 + pl16 n x.1)).drop (16 * x.1)) 0) ((nxO st dl n so x.1).1))) ((nxO st dl n so x.1).1))) ++ X1.drop (16 * x.1 + (lst 16 (added (aeD l (added (cutF ((X1.take (16 * x.1 + pl16 n x.1)).drop (16 * x.1)) 0) ((nxO st dl n so x.1).1))) ((nxO st dl n so x.1).1))).length))) := ⟨_, rfl, hBt.copy (16 * x.1) (lst 16 (added (aeD l (added (cutF ((X1.take (16 * x.1 + pl16 n x.1)).drop (16 * x.1)) 0) ((nxO st dl n so x.1).1))) ((nxO st dl n so x.1).1))) (by omega)⟩
  refine ze 1 hH rfl (fun _ hF => smCopyT (C := cByte) (m := (lst 16 (added (aeD l (added (cutF ((X1.take (16 * x.1 + pl16 n x.1)).drop (16 * x.1)) 0) ((nxO st dl n so x.1).1))) ((nxO st dl n so x.1).1)))) (e := 5) rfl (by kernel_rfl) (by kernel_rfl) (ltb rfl) (hF.ev 1 rfl) (hF.ev 0 rfl) (by omega) rfl (by omega) hcs24) (vu_arr (hH.blk 4 rfl)) 3 ?_
  clear hH
  rintro _ _ w ⟨rfl, rfl⟩ hH
  refine pxEndI ?_
  refine qxInN ?_
  replace hH : HH w0 (bks [bl g 78 (cWk.enc (((A, l.length, z), st, dl), so)), bl gt 5 cu, bl g1 100 #[(.pointer (some ⟨g, 0, none⟩))], bl g2 80 #[(.func (.func 73) #[(cMk.val ((A, l.length, z), st, dl))] #[])]]) [[bl g 78 (cWk.enc (((A, l.length, z), st, dl), nxO st dl n so x.1))], [bl gt 5 cur23], [bl g1 100 #[(.pointer (some ⟨g, 0, none⟩))]], [bl g2 80 #[(.func (.func 73) #[(cMk.val ((A, l.length, z), st, dl))] #[])]]] w := hH.only [true, true, true, true, false]
  have e1 : (nxO st dl n so x.1) = (flO st dl n o ((pre ++ [x]).map (·.1))) := by rw [List.map_append, List.map_cons, List.map_nil, flO_snoc, hso]
  rw [e1] at hH
  have e2 : (X1.take (16 * x.1) ++ ((lst 16 (added (aeD l (added (cutF ((X1.take (16 * x.1 + pl16 n x.1)).drop (16 * x.1)) 0) ((nxO st dl n so x.1).1))) ((nxO st dl n so x.1).1))) ++ X1.drop (16 * x.1 + (lst 16 (added (aeD l (added (cutF ((X1.take (16 * x.1 + pl16 n x.1)).drop (16 * x.1)) 0) ((nxO st dl n so x.1).1))) ((nxO st dl n so x.1).1))).length))) = (flT (aeD l) (aeE l) st dl n o X ((pre ++ [x]).map (·.1))) := by
    have e3 := e1; rw [List.map_append, List.map_cons, List.map_nil] at e3; rw [List.map_append, List.map_cons, List.map_nil, flT_snoc, ← hX1, ← e3]
    unfold nxT; rw [if_neg hc3, lst_len]; refine congrArg (X1.take (16 * x.1) ++ ·) (congrArg (· ++ X1.drop (16 * x.1 + 16)) (lst_congr fun j hj => ?_))
    exact wb_E16 (fun x y h => aeD_E16 l h) (fun q hq => part_at (by omega)) j hj
  exact fun _ _ => ⟨_, ⟨_, rfl, e2 ▸ hB22⟩, by simpa [HH] using hH⟩
  rintro xs E D w hxs ⟨cu, rfl, hBt⟩ hH
  replace hH : HH w0 (bks ([bl g 78 (cWk.enc (((A, l.length, z), st, dl), o, 0)), bl gt 5 cur])) [[bl B 23 #[.slice (some ⟨gt, 0, none⟩) n c], bl (B + 1) 3 #[.int .i64 16]], [bl g 78 (cWk.enc (((A, l.length, z), st, dl), (flO st dl n o (xs.map (·.1)))))], [bl gt 5 cu], [bl g1 100 #[(.pointer (some ⟨g, 0, none⟩))]], [bl g2 80 #[(.func (.func 73) #[(cMk.val ((A, l.length, z), st, dl))] #[])]], [(D, .deferred (some []))]] w := hH.cast (by simp)
  clear hH2 hcB1 hcB2 hB1
  rw [hxs, flO_all] at hH
  rw [hxs, flT_all (fun x y h => aeD_E16 l h) hn] at hBt
  refine qxInN ?_
  refine qxDEnd0 5 hH rfl rfl (fun w hH => ?_)
  exact ⟨_, _, rfl, ⟨rfl, _, rfl, hBt⟩, hH.out [false, true, true, false, false, false]⟩
end Go.Proofs.YtfloiekaiiapnaaGreatDoor

namespace Go.Proofs.YtfloiekaiiapnaaGreatDoor
open Go Go.RowKit
set_option maxRecDepth 100000

set_option maxHeartbeats 8000000 in
theorem tag_o (A : Option Addr) (z : Nat) (l : List UInt8) (hk : l.length = 16 ∨ l.length = 32) (st dl o : Nat → UInt8) (g k : Nat) (Aa : Option Addr) (ya : Nat) (a : List UInt8) (ha : a.length ≤ 140737488355328) (Ap : Option Addr) (yp : Nat) (p : List UInt8) (hp : p.length ≤ 140737488355328) : Pure Tryz.prog 46 #[(.pointer (some ⟨g, 0, none⟩)), (.slice Aa a.length ya), (.slice Ap p.length yp)] (fun w => w.heap[g]? = some (.cells (cWk.enc (((A, l.length, z), st, dl), o, k)) 78 (0, 0)) ∧ w.heap[2]? = some (.cells ((cArr 256).enc boxF) 105 (0, 0)) ∧ w.heap[4]? = some (.cells ((cArr 64).enc dbF) 104 (0, 0)) ∧ Vu cByte w A l.length z l ∧ Vu cByte w Aa a.length ya a ∧ Vu cByte w Ap p.length yp p) ((cArr 16).val (added (aeE l (added (smL p) (added o dl))) (hsL (aeE l) st dl a))) := by
  refine pure_of (fn := Tryz.f46) Tryz.func46 rfl Tryz.ntmps46 (Nat.le_of_ble_eq_true rfl) rfl ?_
  intro w0 hH hR
  refine zr ?_
  refine zm hH (.al (cArr 16) (fun _ => 0)) trivial 0 ?_
  clear hH
  rintro _ _ w ⟨g1, rfl, rfl⟩ hH
  refine zn ?_
  refine zx ?_
  replace hH := hH.drew
  refine rxPg 0 [pv 0 8 [] [] fun G => (.pointer (some ⟨g, 0, none⟩)), pv 1 9 [0] [] fun G => (.pointer (some ⟨g, 0, none⟩)), pv 2 10 [1] [] fun G => (.pointer (some ⟨g, 33, none⟩)), ldv 3 11 [2] [] [] fun G => ((cArr 16).val o), pv 4 12 [] [] fun G => (.pointer (some ⟨g, 0, none⟩)), pv 5 13 [4] [] fun G => (.pointer (some ⟨g, 0, none⟩)), pv 6 14 [5] [] fun G => (.pointer (some ⟨g, 0, none⟩)), pv 7 15 [6] [] fun G => (.pointer (some ⟨g, 17, none⟩)), ldv 8 16 [7] [] [] fun G => ((cArr 16).val dl), pv 9 17 [3, 8] [] fun G => ((cArr 16).val (added o dl)), alv 10 7 [] [] fun G g => [bl g 61 ((cArr 16).enc (fun _ => 0))], stv 11 [9, 10] [10] 10 fun G => [bl (G 10).g 61 ((cArr 16).enc (added o dl))]] (fun G => [(7, (.pointer (some ⟨(G 10).g, 0, none⟩))), (6, (.pointer (some ⟨g1, 0, none⟩))), (0, (.pointer (some ⟨g, 0, none⟩))), (1, (.slice Aa a.length ya)), (2, (.slice Ap p.length yp))]) (fun G => [[bl g1 61 ((cArr 16).enc (fun _ => 0))], [bl (G 10).g 61 ((cArr 16).enc (added o dl))]]) hH (.c (.v fun G => .mv) <| .c (.v fun G => .nc) <| .c (.v fun G => (.fld 33)) <| .c (.ld (fun G _ _ hH => (hH.ob hR.1)) fun G => (.ld (cArr 16) o (fun _ hS => ((holds_blk0 hS).snd).fst))) <| .c (.v fun G => .mv) <| .c (.v fun G => .nc) <| .c (.v fun G => (.fld 0)) <| .c (.v fun G => (.fld 17)) <| .c (.ld (fun G _ _ hH => (hH.ob hR.1)) fun G => (.ld (cArr 16) dl (fun _ hS => (((holds_blk0 hS).fst).snd).snd))) <| .c (Sp.c Tryz.func64 (fun G => (xor_c o dl)) fun _ => trivial) <| .c (.a (fun _ _ _ _ => trivial) (fun G => (.al (cArr 16) (fun _ => 0))) fun _ _ _ h => h) <| .c (.tn (fun G => (.sw (cArr 16) (fun _ => 0) (added o dl))) (fun _ _ _ _ => trivial) fun _ _ _ h => h) <| .nil) ?_
  clear hH
  rintro G w - hH
  revert hH
  generalize (G 10).g = g2
  intro hH
  refine rn ?_
  refine zx ?_
  replace hH := hH.drew
  refine rv 0 .mv 0 ?_
  refine rv 1 .nc 1 ?_
  refine rv 2 (.fld 0) 1 ?_
  refine rld 3 (hH.ob hR.1) (.ld cMk ((A, l.length, z), st, dl) (fun _ hS => (holds_blk0 hS).fst)) 1 ?_
  refine rv 4 .mv 32 ?_
  refine rld 6 (hH.q 1 rfl) (.ld (cArr 16) (added o dl) (fun _ hS => (holds_blk0 hS))) 4 ?_
  refine rv 9 .mv 16 ?_
  refine rv 10 .nc 1 ?_
  refine rv 11 (.fld 0) 1 ?_
  refine rld 12 (hH.ob hR.1) (.ld cMk ((A, l.length, z), st, dl) (fun _ hS => (holds_blk0 hS).fst)) 1 ?_
  refine rv 13 .mv 32 ?_
  refine rx1k 5 (rpc 5 Tryz.func66 (sum_o Ap yp p (by omega)) (hH.vu hR.2.2.2.2.2 (by decide) (Off.nil _ _)) hH 8 (.keep (.keep (.keep (.nil _ [])))) ?_)
  clear hH
  intro w hH
  refine ⟨pcons (hH.oldBlk hR.1 (by simp)) (pcons (hH.blk 1 rfl) (pcons (hH.oldBlk hR.1 (by simp)) pnil)), ?_⟩
  refine rx1k 7 (rpc 7 Tryz.func64 (xor_c (smL p) (added o dl)) trivial hH 9 (.keep (pgo [] (.keep (.nil _ [])))) ?_)
  clear hH
  intro w hH
  refine ⟨pcons (hH.oldBlk hR.1 (by simp)) (pcons (hH.oldBlk hR.1 (by simp)) pnil), ?_⟩
  refine rx1k 8 (rpc 8 Tryz.func45 (maeE_c A z l hk st dl (added (smL p) (added o dl))) (⟨(hH.oldBlk hR.2.1 (by simp)), (hH.vu hR.2.2.2.1 (by decide) (Off.nil _ _))⟩) hH 9 (.keep (pgo [] (.nil _ []))) ?_)
  clear hH
  intro w hH
  refine ⟨pcons (hH.oldBlk hR.1 (by simp)) pnil, ?_⟩
  refine rx1k 14 (rpc 14 Tryz.func67 (hash_o A z l hk st dl Aa ya a (by omega)) (⟨(hH.oldBlk hR.2.1 (by simp)), (hH.oldBlk hR.2.2.1 (by simp)), (hH.vu hR.2.2.2.1 (by decide) (Off.nil _ _)), (hH.vu hR.2.2.2.2.1 (by decide) (Off.nil _ _))⟩) hH 6 (pgo [] (.nil _ [])) ?_)
  clear hH
  intro w hH
  refine ⟨pnil, ?_⟩
  refine rx1k 15 (rpc 15 Tryz.func64 (xor_c (aeE l (added (smL p) (added o dl))) (hsL (aeE l) st dl a)) trivial hH 3 (.nil _ []) ?_)
  clear hH
  intro w hH
  refine ⟨pnil, ?_⟩
  refine rx1k 16 ?_
  refine re0 16 0 hH rfl (.sw (cArr 16) (fun _ => 0) (added (aeE l (added (smL p) (added o dl))) (hsL (aeE l) st dl a))) trivial (.nil _ []) ?_
  clear hH
  rintro _ _ w rfl hH
  refine ⟨pnil, ?_⟩
  refine rn ?_
  refine cxRet ?_
  refine qxRetC 1 (hH.blk 0 rfl) rfl rfl (by kernel_rfl) (Cod.size _ _) (by kernel_rfl) ?_
  exact ⟨rfl, HH.toBelow hH⟩
end Go.Proofs.YtfloiekaiiapnaaGreatDoor

namespace Go.Proofs.YtfloiekaiiapnaaGreatDoor
open Go Go.RowKit
set_option maxRecDepth 100000

theorem tag_n (A : Option Addr) (z : Nat) (l : List UInt8) (hk : l.length = 16 ∨ l.length = 32) (st dl o : Nat → UInt8) (g k : Nat) (Aa : Option Addr) (na ya : Nat) (a : List UInt8) (ha : na ≤ 140737488355328) (Ap : Option Addr) (np yp : Nat) (p : List UInt8) (hp : np ≤ 140737488355328) : Pure Tryz.prog 46 #[(.pointer (some ⟨g, 0, none⟩)), (.slice Aa na ya), (.slice Ap np yp)] (fun w => w.heap[g]? = some (.cells (cWk.enc (((A, l.length, z), st, dl), o, k)) 78 (0, 0)) ∧ w.heap[2]? = some (.cells ((cArr 256).enc boxF) 105 (0, 0)) ∧ w.heap[4]? = some (.cells ((cArr 64).enc dbF) 104 (0, 0)) ∧ Vu cByte w A l.length z l ∧ Vu cByte w Aa na ya a ∧ Vu cByte w Ap np yp p) ((cArr 16).val (added (aeE l (added (smL p) (added o dl))) (hsL (aeE l) st dl a))) := fun w hR => by
  obtain rfl := hR.2.2.2.2.1.len
  obtain rfl := hR.2.2.2.2.2.len
  exact tag_o A z l hk st dl o g k Aa ya a ha Ap yp p hp w hR
theorem ocG_iff {K N A S : List UInt8} (h : 16 ≤ S.length) : ocG K N A S ↔ lst 16 (ocT K N A (ocP K N S)) = lst 16 (cutF S (S.length - 16)) := by
  have e : lst 16 (cutF S (S.length - 16)) = S.drop (S.length - 16) := (lst_of_known (fun j hj => by rw [List.getElem?_drop]; exact cut_get (by omega)) (by rw [List.length_drop]; omega)).symm
  unfold ocG
  rw [e]
  exact ⟨fun h => h.2, fun h2 => ⟨h, h2⟩⟩
def ocE (K N A S : List UInt8) : Nat := if ocG K N A S then 0 else 5
def ocR (K N A S : List UInt8) : List UInt8 := if ocG K N A S then ocP K N S else []
theorem ocP_len (K N S : List UInt8) : (ocP K N S).length = S.length - 16 := by unfold ocP; rw [thL_len, List.length_take]; omega

set_option maxHeartbeats 8000000 in
theorem open_o (A : Option Addr) (z : Nat) (l : List UInt8) (hk : l.length = 16 ∨ l.length = 32) (B : Option Addr) (y : Nat) (N : List UInt8) (h1 : 1 ≤ N.length) (h15 : N.length ≤ 15) (Aa : Option Addr) (ya : Nat) (a : List UInt8) (ha : a.length ≤ 140737488355328) (Ap : Option Addr) (yp : Nat) (p : List UInt8) (hp : p.length ≤ 140737488350000) : Does Tryz.prog 55 #[(.slice A l.length z), (.slice B N.length y), (.slice Aa a.length ya), (.slice Ap p.length yp)] [] (fun w => w.heap[2]? = some (.cells ((cArr 256).enc boxF) 105 (0, 0)) ∧ w.heap[4]? = some (.cells ((cArr 64).enc dbF) 104 (0, 0)) ∧ Vu cByte w A l.length z l ∧ Vu cByte w B N.length y N ∧ Vu cByte w Aa a.length ya a ∧ Vu cByte w Ap p.length yp p) (fun v E' => ∃ s, v = .tuple #[s, .int .i64 (((ocE l N a p) : Nat) : Int)] ∧ OwnT cByte 5 s (ocR l N a p) E') := by
  refine does_of (fn := Tryz.f55) Tryz.func55 rfl Tryz.ntmps55 (Nat.le_of_ble_eq_true rfl) rfl ?_
  intro w0 hH hR
  replace hH : HH w0 [] [] w0 := hH.only [false]
  have hca := hR.2.2.2.2.1.cap
  have hcp := hR.2.2.2.2.2.cap
  refine zr ?_
  refine zv .mv 0 ?_
  refine zv .mv 1 ?_
  refine zn ?_
  refine zr ?_
  refine zv .mv 3 ?_
  refine zv .mv 0 ?_
  refine zc Tryz.func42 (begin_c A z l hk B y N h1 h15) (⟨(hH.oldBlk hR.1 (by simp)), (hH.vu hR.2.2.1 (by decide) (Off.nil _ _)), (hH.vu hR.2.2.2.1 (by decide) (Off.nil _ _))⟩) hH 3 ?_
  clear hH
  intro w hH
  refine zv .mv 1 ?_
  refine zv .ext 0 ?_
  refine zv .ext 2 ?_
  refine zm hH (.al cMk ((none, 0, 0), fun _ => 0, fun _ => 0)) trivial 0 ?_
  clear hH
  rintro _ _ w ⟨g1, rfl, rfl⟩ hH
  refine ze0 0 hH rfl (.sw cMk ((none, 0, 0), fun _ => 0, fun _ => 0) ((A, l.length, z), (ocSt l), (ocDl l))) trivial ?_
  clear hH
  rintro _ _ w rfl hH
  refine zv .mv 6 ?_
  refine zn ?_
  refine cxSeq ?_
  refine zr ?_
  refine zv .mv 0 ?_
  refine zv (v := (.bool false)) (fun _ _ hF => opNeI rfl (hF.ev 0 rfl) rfl (by decide)) 1 ?_
  refine zn ?_
  refine zF ?_
  refine cxSkip ?_
  refine qxThen ?_
  refine cxSeq ?_
  refine zr ?_
  refine zv .mv 3 ?_
  refine zv .len 1 ?_
  refine zv (.lt (p.length < 16)) 1 ?_
  refine zn ?_
  refine zP (fun hc2 => ?_) (fun hc2 => ?_)
  refine zr ?_
  refine zv .mv 31 ?_
  refine zv .mv 0 ?_
  refine zn ?_
  refine cxRet ?_
  refine qxThenR ?_
  refine qxRet2 1 0 rfl rfl rfl ?_
  have hg : ¬ ocG l N a p := fun h => by have := h.1; omega
  have hE : ocE l N a p = 5 := if_neg hg
  have hL : ocR l N a p = [] := if_neg hg
  exact ⟨_, _, rfl, ⟨_, by rw [hE]; rfl, hL ▸ OwnT.nil _ _⟩, HH.out (HH.pad hH 1) [false, true]⟩
  have h16 : 16 ≤ p.length := by omega
  refine cxSkip ?_
  refine qxThen ?_
  refine zr ?_
  refine zv .mv 1 ?_
  refine zv .len 1 ?_
  refine zv (.sub (((p.length - 16) : Nat) : Int)) 1 ?_
  refine zm hH (fun _ hF => smMake (e := 5) (n := p.length - 16) (sz := 1) (by_ := 1) (z := (.int .u8 0)) (cs := madeCells (cByte.enc 0) ((p.length - 16) * 1)) rfl (by kernel_rfl) (by kernel_rfl) (hF.ev 0 rfl) (hF.ev 0 rfl) rfl rfl (by omega) (by omega) rfl) trivial 1 ?_
  clear hH
  rintro _ _ w ⟨g3, rfl, rfl⟩ hH
  refine zv .mv 1 ?_
  refine zn ?_
  have hs1 : cByte.sz = 1 := rfl
  have hp2 : (p.take (p.length - 16)).length = p.length - 16 := by rw [List.length_take]; omega
  obtain ⟨T0, hB0, hT0, hl0⟩ : ∃ T, Bk cByte (p.length - 16) (madeCells (cByte.enc 0) ((p.length - 16) * 1)) T ∧ T = (List.replicate (p.length - 16) 0) ∧ T.length = p.length - 16 := ⟨_, (Bk.make (C := cByte) 0 (p.length - 16) (ltb rfl) (by unfold maxLen; omega)), rfl, List.length_replicate⟩
  have hz0 : ((madeCells (cByte.enc 0) ((p.length - 16) * 1))).size = (p.length - 16) * 1 := hB0.size
  refine zr ?_
  refine zv .mv 0 ?_
  refine zv .mv 0 ?_
  obtain ⟨cu1, hcs1, hB1, hl1⟩ : ∃ cs, putL (madeCells (cByte.enc 0) ((p.length - 16) * 1)) 0 (flat cByte (p.take (p.length - 16))) = cs ∧ Bk cByte (p.length - 16) cs (p.take (p.length - 16)) ∧ (p.take (p.length - 16)).length = p.length - 16 := by
    have h := hB0.copy 0 (p.take (p.length - 16)) (by omega)
    rw [List.take_zero, List.nil_append, Nat.zero_add, hp2, List.drop_eq_nil_of_le (by omega), List.append_nil] at h
    exact ⟨_, rfl, by simpa using h, hp2⟩
  refine ze 1 hH rfl (fun _ hF => smCopyK (C := cByte) (m := p) (e := 5) (p.length - 16) (show min p.length (p.length - 16) = p.length - 16 by omega) rfl (by kernel_rfl) (by kernel_rfl) (ltb rfl) (hF.ev 1 rfl) (hF.ev 0 rfl) rfl (by show 0 + (p.length - 16) * 1 ≤ _; omega) hcs1) (hH.vu hR.2.2.2.2.2 (by decide) (Off.nil _ _)) 3 ?_
  clear hH
  rintro _ _ w ⟨rfl, rfl⟩ hH
  refine zn ?_
  refine zx ?_
  replace hH := hH.drew
  refine rxPg 0 [ldv 0 33 [] [] [1000] fun G => (cMk.val ((A, l.length, z), (ocSt l), (ocDl l))), ldv 1 34 [] [] [1000] fun G => (cMk.val ((A, l.length, z), (ocSt l), (ocDl l))), pv 2 35 [] [] fun G => (.slice B N.length y), pv 3 36 [1, 2] [] fun G => ((cArr 16).val (of0 (aeE l) N)), pv 4 37 [0, 3] [] fun G => (cWk.val (((A, l.length, z), (ocSt l), (ocDl l)), (of0 (aeE l) N), 0)), alv 5 13 [] [] fun G g => [bl g 78 (cWk.enc (((none, 0, 0), fun _ => 0, fun _ => 0), (fun _ => 0), 0))], stv 6 [4, 5] [5] 5 fun G => [bl (G 5).g 78 (cWk.enc (((A, l.length, z), (ocSt l), (ocDl l)), (of0 (aeE l) N), 0))]] (fun G => [(13, (.pointer (some ⟨(G 5).g, 0, none⟩))), (12, (.slice (some ⟨g3, 0, none⟩) (p.length - 16) (p.length - 16))), (10, (.pointer (some ⟨g1, 0, none⟩))), (2, (.slice Aa a.length ya)), (3, (.slice Ap p.length yp))]) (fun G => [[bl g1 73 (cMk.enc ((A, l.length, z), (ocSt l), (ocDl l)))], [bl g3 5 cu1], [bl (G 5).g 78 (cWk.enc (((A, l.length, z), (ocSt l), (ocDl l)), (of0 (aeE l) N), 0))]]) hH (.c (.ld (fun G _ _ hH => (hH.q 0 rfl)) fun G => (.ld cMk ((A, l.length, z), (ocSt l), (ocDl l)) (fun _ hS => (holds_blk0 hS)))) <| .c (.ld (fun G _ _ hH => (hH.q 0 rfl)) fun G => (.ld cMk ((A, l.length, z), (ocSt l), (ocDl l)) (fun _ hS => (holds_blk0 hS)))) <| .c (.v fun G => .mv) <| .c (Sp.cr Tryz.func43 (fun G => (fo_c A z l hk (ocSt l) (ocDl l) B y N h1 h15)) fun _ _ hH => ⟨(hH.oldBlk hR.1 (by simp)), (hH.vu hR.2.2.1 (by decide) (Off.nil _ _)), (hH.vu hR.2.2.2.1 (by decide) (Off.nil _ _))⟩) <| .c (.v fun G => (fun _ _ hF => opBuildP (cells := cWk.enc (((A, l.length, z), (ocSt l), (ocDl l)), (of0 (aeE l) N), 0)) rfl (EvP.cons (v := (cMk.val ((A, l.length, z), (ocSt l), (ocDl l)))) (hF.ev 0 rfl) (EvP.cons (v := ((cArr 16).val (of0 (aeE l) N))) (hF.ev 1 rfl) EvP.nil)) (built_2of3 (A := cMk) (B := cArr 16) (C := cNat .u64) ((none, 0, 0), fun _ => 0, fun _ => 0) (fun _ => 0) 0 (by kernel_rfl) (by kernel_rfl) rfl rfl) _)) <| .c (.a (fun _ _ _ _ => trivial) (fun G => (.al cWk (((none, 0, 0), fun _ => 0, fun _ => 0), (fun _ => 0), 0))) fun _ _ _ h => h) <| .c (.tn (fun G => (.sw cWk (((none, 0, 0), fun _ => 0, fun _ => 0), (fun _ => 0), 0) (((A, l.length, z), (ocSt l), (ocDl l)), (of0 (aeE l) N), 0))) (fun _ _ _ _ => trivial) fun _ _ _ h => h) <| .nil) ?_
  clear hH
  rintro G w - hH
  revert hH
  generalize (G 5).g = g4
  intro hH
  refine rn ?_
  replace hH : HH w0 [] [[bl g4 78 (cWk.enc (((A, l.length, z), (ocSt l), (ocDl l)), (of0 (aeE l) N), 0))], [bl g3 5 cu1], [bl g1 73 (cMk.enc ((A, l.length, z), (ocSt l), (ocDl l)))]] w := HH.sel hH [2, 1, 0] rfl (by decide)
  replace hH : HH w0 [] [([[bl g4 78 (cWk.enc (((A, l.length, z), (ocSt l), (ocDl l)), (of0 (aeE l) N), 0))], [bl g3 5 cu1]] : List Hl).flatten, [bl g1 73 (cMk.enc ((A, l.length, z), (ocSt l), (ocDl l)))]] w := hH.cast (by simp)
  refine zr ?_
  refine zv .mv 0 ?_
  refine zs (hH.q 1 rfl) (.ld cMk ((A, l.length, z), (ocSt l), (ocDl l)) (fun _ hS => (holds_blk0 hS))) 8 ?_
  refine zv (v := (.func (.func 73) #[(cMk.val ((A, l.length, z), (ocSt l), (ocDl l)))] #[])) (fun _ _ hF => opMakeFuncB rfl (Evs.cons (v := (cMk.val ((A, l.length, z), (ocSt l), (ocDl l)))) (hF.ev 0 rfl) Evs.nil)) 1 ?_
  refine ze 0 hH rfl (.call Tryz.func44 (thraeD_c A z l hk (ocSt l) (ocDl l) (of0 (aeE l) N) g4 g3 (p.length - 16) (p.length - 16) (p.length - 16) cu1 (p.take (p.length - 16)) hB1 (by omega) (by omega) (by omega))) (⟨(hH.oldBlk hR.1 (by simp)), (hH.oldBlk hR.2.1 (by simp)), (hH.vu hR.2.2.1 (by decide) (Off.nil _ _)), (hH.off 0 rfl hR.2.2.1 (by decide) (Off.nil _ _))⟩) 3 ?_
  clear hH
  rintro _ _ w ⟨rfl, cu5, rfl, hBt6⟩ hH
  refine zn ?_
  refine cxSeq ?_
  replace hH : HH w0 [] [[bl g4 78 (cWk.enc (((A, l.length, z), (ocSt l), (ocDl l)), ofE (ocSt l) (ocDl l) (of0 (aeE l) N) (p.length - 16), (p.length - 16) / 16))], [bl g3 5 cu5], [bl g1 73 (cMk.enc ((A, l.length, z), (ocSt l), (ocDl l)))]] w := hH.cast (by simp)
  obtain ⟨T2, hB2, hT2, hl2⟩ : ∃ T, Bk cByte (p.length - 16) cu5 T ∧ T = ocP l N p ∧ T.length = p.length - 16 := ⟨_, hBt6, by rw [List.take_of_length_le (by omega), List.drop_eq_nil_of_le (by omega), List.append_nil]; rfl, by rw [List.take_of_length_le (by omega), List.drop_eq_nil_of_le (by omega), List.append_nil, thL_len, hp2]⟩
  obtain ⟨b7, off8, rfl, hL9, hb10, hR11⟩ := hR.2.2.2.2.2.blk (by decide) (Off.nil _ _) (by omega)
  have := hR.2.2.2.2.2.cap
  refine zx ?_
  replace hH := hH.drew
  refine rv 0 .mv 9 ?_
  refine rv 1 .mv 0 ?_
  refine rv 3 .mv 16 ?_
  refine rv 4 .mv 0 ?_
  refine rv 5 .len 1 ?_
  refine rv 6 (v := (.slice (some ⟨b7, off8 + (p.length - 16) * 1, none⟩) (p.length - (p.length - 16)) (yp - (p.length - 16)))) (fun _ _ hF => opSlcL (k := p.length - 16) (e := 5) (sz := 1) rfl (by kernel_rfl) (by kernel_rfl) (hF.ev 1 rfl) (hF.ev 0 rfl) rfl (by omega) (by omega)) 3 ?_
  refine rv 7 (v := (.pointer (some ⟨b7, off8 + (p.length - 16) * 1, none⟩))) (fun _ _ hF => opToArray (m := 16) (e := 5) rfl (by kernel_rfl) (hF.ev 0 rfl) (by omega)) 1 ?_
  refine rld 8 (S := fun w => HoldsL cByte w b7 off8 p) (hH.holdsL hL9 hb10 hR11) (.ld (cArr 16) (cutF p (p.length - 16)) (fun _ hS => (hS.arr (p.length - 16) 16 (by first | omega | (rw [lst_len]; omega) | (simp only [List.length_drop, List.length_take]; omega) | (simp only [List.length_drop, List.length_take, lst_len]; omega))))) 1 ?_
  refine rx1k 2 (rpc 2 Tryz.func46 (tag_n A z l hk (ocSt l) (ocDl l) (ofE (ocSt l) (ocDl l) (of0 (aeE l) N) (p.length - 16)) g4 ((p.length - 16) / 16) Aa a.length ya a (by omega) (some ⟨g3, 0, none⟩) (p.length - 16) (p.length - 16) T2 (by omega)) (⟨(hH.blk 0 rfl), (hH.oldBlk hR.1 (by simp)), (hH.oldBlk hR.2.1 (by simp)), (hH.vu hR.2.2.1 (by decide) (Off.nil _ _)), (hH.vu hR.2.2.2.2.1 (by decide) (Off.nil _ _)), (hB2.vu (n := p.length - 16) (hH.blk 1 rfl) hl2)⟩) hH 14 (.keep (.nil _ [])) ?_)
  clear hH
  intro w hH
  refine ⟨pcons (hH.holdsL hL9 hb10 hR11) pnil, ?_⟩
  refine rv 9 (v := (.bool (decide (lst 16 (added (aeE l (added (smL T2) (added (ofE (ocSt l) (ocDl l) (of0 (aeE l) N) (p.length - 16)) (ocDl l)))) (hsL (aeE l) (ocSt l) (ocDl l) a)) ≠ lst 16 (cutF p (p.length - 16)))))) (fun _ _ hF => opNeA (n := 16) (e := 5) (f := (added (aeE l (added (smL T2) (added (ofE (ocSt l) (ocDl l) (of0 (aeE l) N) (p.length - 16)) (ocDl l)))) (hsL (aeE l) (ocSt l) (ocDl l) a))) (g := (cutF p (p.length - 16))) rfl (by kernel_rfl) (by kernel_rfl) (by kernel_rfl) (hF.ev 0 rfl) (hF.ev 1 rfl) (by kernel_rfl) Iff.rfl) 3 ?_
  refine rn ?_
  refine zP (fun hc12 => ?_) (fun hc12 => ?_)
  refine zr ?_
  refine zv .mv 3 ?_
  refine zv .mv 0 ?_
  refine zn ?_
  refine cxRet ?_
  refine qxThenR ?_
  refine qxRet2 1 0 rfl rfl rfl ?_
  have hg : ¬ ocG l N a p := fun h => hc12 (by have h2 := (ocG_iff h16).1 h; rw [← hT2] at h2; exact (by unfold ocT tgB at h2; rw [hl2] at h2; exact h2))
  have hE : ocE l N a p = 5 := if_neg hg
  have hL : ocR l N a p = [] := if_neg hg
  exact ⟨_, _, rfl, ⟨_, by rw [hE]; rfl, hL ▸ OwnT.nil _ _⟩, HH.out (HH.pad hH 1) [false, false, false, true]⟩
  refine cxSkip ?_
  refine qxThen ?_
  refine zr ?_
  refine zv .mv 3 ?_
  refine zv .mv 1 ?_
  refine zv .mv 0 ?_
  refine zn ?_
  refine cxRet ?_
  refine qxRet2 1 0 rfl rfl rfl ?_
  have hq := Decidable.not_not.1 hc12
  have hg : ocG l N a p := (ocG_iff h16).2 (by rw [← hT2]; unfold ocT tgB; rw [hl2]; exact hq)
  have hE : ocE l N a p = 0 := if_pos hg
  have hL : ocR l N a p = T2 := (if_pos hg).trans hT2.symm
  exact ⟨_, _, rfl, ⟨_, by rw [hE]; rfl, hL ▸ hB2.own 5 g3 hl2⟩, hH.out1 [false, true, false] rfl⟩
end Go.Proofs.YtfloiekaiiapnaaGreatDoor

namespace Go.Proofs.YtfloiekaiiapnaaGreatDoor
open Go Go.RowKit
set_option maxRecDepth 100000

/-- What a body opens to: the error, the bytes. -/
def spA (S B : List UInt8) : Nat := if B.length < 36 ∨ (B.getD 0 0).toNat ≠ 2 then 2 else if (B.getD 1 0).toNat ≠ 9 ∨ (B.getD 2 0).toNat ≠ 2 ∨ 10 < (B.getD 3 0).toNat then 10 else if (spOpen S B).isSome then 0 else 5
def spZ (S B : List UInt8) : List UInt8 := if spA S B = 0 then (spOpen S B).getD [] else []
section
variable {S B : List UInt8}
theorem getD_of {l : List UInt8} {k : Nat} {x : UInt8} (h : l[k]? = some x) : l.getD k 0 = x := by rw [List.getD_eq_getElem?_getD, h]; rfl
theorem spZ_bad {e : Nat} (h : spA S B = e) (he : e ≠ 0) : spZ S B = [] := by unfold spZ; rw [h, if_neg he]
theorem spA_1 (h : B.length < 36 ∨ (B.getD 0 0).toNat ≠ 2) : spA S B = 2 := if_pos h
theorem spA_2 (h : ¬ (B.length < 36 ∨ (B.getD 0 0).toNat ≠ 2)) (h2 : (B.getD 1 0).toNat ≠ 9 ∨ (B.getD 2 0).toNat ≠ 2 ∨ 10 < (B.getD 3 0).toNat) : spA S B = 10 := by unfold spA; rw [if_neg h, if_pos h2]
theorem spA_5 (h : ¬ (B.length < 36 ∨ (B.getD 0 0).toNat ≠ 2)) (h2 : ¬ ((B.getD 1 0).toNat ≠ 9 ∨ (B.getD 2 0).toNat ≠ 2 ∨ 10 < (B.getD 3 0).toNat)) (h3 : spOpen S B = none) : spA S B = 5 := by unfold spA; rw [if_neg h, if_neg h2, h3]; rfl
theorem spA_0 (h : ¬ (B.length < 36 ∨ (B.getD 0 0).toNat ≠ 2)) (h2 : ¬ ((B.getD 1 0).toNat ≠ 9 ∨ (B.getD 2 0).toNat ≠ 2 ∨ 10 < (B.getD 3 0).toNat)) {O : List UInt8} (h3 : spOpen S B = some O) : spA S B = 0 ∧ spZ S B = O := by
  have e : spA S B = 0 := by unfold spA; rw [if_neg h, if_neg h2, h3]; rfl
  exact ⟨e, by unfold spZ; rw [if_pos e, h3]; rfl⟩
end
theorem ocE_0 {K N A S : List UInt8} (h : ¬ ocE K N A S ≠ 0) : ocG K N A S ∧ ocR K N A S = ocP K N S := by
  by_cases g : ocG K N A S
  · exact ⟨g, if_pos g⟩
  · exact absurd (by unfold ocE; rw [if_neg g]; decide) h
theorem ocE_1 {K N A S : List UInt8} (h : ocE K N A S ≠ 0) : ¬ ocG K N A S := fun g => h (if_pos g)

end Go.Proofs.YtfloiekaiiapnaaGreatDoor

namespace Go.Proofs.YtfloiekaiiapnaaGreatDoor
open Go Go.RowKit
set_option maxRecDepth 100000

set_option maxHeartbeats 8000000 in
theorem seal_o (A : Option Addr) (z : Nat) (l : List UInt8) (hk : l.length = 16 ∨ l.length = 32) (B : Option Addr) (y : Nat) (N : List UInt8) (h1 : 1 ≤ N.length) (h15 : N.length ≤ 15) (Aa : Option Addr) (ya : Nat) (a : List UInt8) (ha : a.length ≤ 140737488355328) (Ap : Option Addr) (yp : Nat) (p : List UInt8) (hp : p.length ≤ 140737488350000) : Does Tryz.prog 29 #[(.slice A l.length z), (.slice B N.length y), (.slice Aa a.length ya), (.slice Ap p.length yp)] [] (fun w => w.heap[2]? = some (.cells ((cArr 256).enc boxF) 105 (0, 0)) ∧ w.heap[4]? = some (.cells ((cArr 64).enc dbF) 104 (0, 0)) ∧ Vu cByte w A l.length z l ∧ Vu cByte w B N.length y N ∧ Vu cByte w Aa a.length ya a ∧ Vu cByte w Ap p.length yp p) (fun v E' => ∃ s, v = .tuple #[s, .int .i64 0] ∧ OwnT cByte 5 s (ocS l N a p) E') := by
  refine does_of (fn := Tryz.f29) Tryz.func29 rfl Tryz.ntmps29 (Nat.le_of_ble_eq_true rfl) rfl ?_
  intro w0 hH hR
  replace hH : HH w0 [] [] w0 := hH.only [false]
  have hca := hR.2.2.2.2.1.cap
  have hcp := hR.2.2.2.2.2.cap
  refine zr ?_
  refine zv .mv 0 ?_
  refine zv .mv 1 ?_
  refine zn ?_
  refine zr ?_
  refine zv .mv 3 ?_
  refine zv .mv 0 ?_
  refine zc Tryz.func42 (begin_c A z l hk B y N h1 h15) (⟨(hH.oldBlk hR.1 (by simp)), (hH.vu hR.2.2.1 (by decide) (Off.nil _ _)), (hH.vu hR.2.2.2.1 (by decide) (Off.nil _ _))⟩) hH 3 ?_
  clear hH
  intro w hH
  refine zv .mv 1 ?_
  refine zv .ext 0 ?_
  refine zv .ext 2 ?_
  refine zm hH (.al cMk ((none, 0, 0), fun _ => 0, fun _ => 0)) trivial 0 ?_
  clear hH
  rintro _ _ w ⟨g1, rfl, rfl⟩ hH
  refine ze0 0 hH rfl (.sw cMk ((none, 0, 0), fun _ => 0, fun _ => 0) ((A, l.length, z), (ocSt l), (ocDl l))) trivial ?_
  clear hH
  rintro _ _ w rfl hH
  refine zv .mv 6 ?_
  refine zn ?_
  refine cxSeq ?_
  refine zr ?_
  refine zv .mv 0 ?_
  refine zv (v := (.bool false)) (fun _ _ hF => opNeI rfl (hF.ev 0 rfl) rfl (by decide)) 1 ?_
  refine zn ?_
  refine zF ?_
  refine cxSkip ?_
  refine qxThen ?_
  refine zr ?_
  refine zv .mv 3 ?_
  refine zv .len 1 ?_
  refine zv (.add (((p.length + 16) : Nat) : Int)) 1 ?_
  refine zm hH (fun _ hF => smMake (e := 5) (n := p.length + 16) (sz := 1) (by_ := 1) (z := (.int .u8 0)) (cs := madeCells (cByte.enc 0) ((p.length + 16) * 1)) rfl (by kernel_rfl) (by kernel_rfl) (hF.ev 0 rfl) (hF.ev 0 rfl) rfl rfl (by omega) (by omega) rfl) trivial 1 ?_
  clear hH
  rintro _ _ w ⟨g2, rfl, rfl⟩ hH
  refine zv .mv 1 ?_
  refine zn ?_
  have hs1 : cByte.sz = 1 := rfl
  have hps : p.length * cByte.sz = p.length := Nat.mul_one _
  obtain ⟨T0, hB0, hT0, hl0⟩ : ∃ T, Bk cByte (p.length + 16) (madeCells (cByte.enc 0) ((p.length + 16) * 1)) T ∧ T = List.replicate (p.length + 16) 0 ∧ T.length = p.length + 16 := ⟨_, (Bk.make (C := cByte) 0 (p.length + 16) (ltb rfl) (by unfold maxLen; omega)), rfl, List.length_replicate⟩
  have hz0 : ((madeCells (cByte.enc 0) ((p.length + 16) * 1))).size = (p.length + 16) * 1 := hB0.size
  refine zr ?_
  refine zv .mv 0 ?_
  refine zv .mv 0 ?_
  obtain ⟨cur4, hcs5, hB3⟩ : ∃ cs, putL (madeCells (cByte.enc 0) ((p.length + 16) * 1)) (0) (flat cByte p) = cs ∧ Bk cByte (p.length + 16) cs (T0.take 0 ++ (p ++ T0.drop (0 + p.length))) := ⟨_, rfl, hB0.copy 0 p (by omega)⟩
  refine ze 1 hH rfl (fun _ hF => smCopyT (C := cByte) (m := p) (e := 5) rfl (by kernel_rfl) (by kernel_rfl) (ltb rfl) (hF.ev 1 rfl) (hF.ev 0 rfl) (by omega) rfl (by omega) hcs5) (hH.vu hR.2.2.2.2.2 (by decide) (Off.nil _ _)) 3 ?_
  clear hH
  rintro _ _ w ⟨rfl, rfl⟩ hH
  refine zn ?_
  obtain ⟨T1, hB1, hT1, hl1⟩ : ∃ T, Bk cByte (p.length + 16) cur4 T ∧ T = p ++ List.replicate 16 0 ∧ T.length = p.length + 16 := ⟨_, hB3, by rw [hT0]; simp, by rw [hT0]; simp⟩
  refine zx ?_
  replace hH := hH.drew
  refine rxPg 0 [ldv 0 31 [] [] [1000] fun G => (cMk.val ((A, l.length, z), (ocSt l), (ocDl l))), ldv 1 32 [] [] [1000] fun G => (cMk.val ((A, l.length, z), (ocSt l), (ocDl l))), pv 2 33 [] [] fun G => (.slice B N.length y), pv 3 34 [1, 2] [] fun G => ((cArr 16).val (of0 (aeE l) N)), pv 4 35 [0, 3] [] fun G => (cWk.val (((A, l.length, z), (ocSt l), (ocDl l)), (of0 (aeE l) N), 0)), alv 5 13 [] [] fun G g => [bl g 78 (cWk.enc (((none, 0, 0), fun _ => 0, fun _ => 0), (fun _ => 0), 0))], stv 6 [4, 5] [5] 5 fun G => [bl (G 5).g 78 (cWk.enc (((A, l.length, z), (ocSt l), (ocDl l)), (of0 (aeE l) N), 0))]] (fun G => [(13, (.pointer (some ⟨(G 5).g, 0, none⟩))), (12, (.slice (some ⟨g2, 0, none⟩) (p.length + 16) (p.length + 16))), (10, (.pointer (some ⟨g1, 0, none⟩))), (2, (.slice Aa a.length ya)), (3, (.slice Ap p.length yp))]) (fun G => [[bl g1 73 (cMk.enc ((A, l.length, z), (ocSt l), (ocDl l)))], [bl g2 5 cur4], [bl (G 5).g 78 (cWk.enc (((A, l.length, z), (ocSt l), (ocDl l)), (of0 (aeE l) N), 0))]]) hH (.c (.ld (fun G _ _ hH => (hH.q 0 rfl)) fun G => (.ld cMk ((A, l.length, z), (ocSt l), (ocDl l)) (fun _ hS => (holds_blk0 hS)))) <| .c (.ld (fun G _ _ hH => (hH.q 0 rfl)) fun G => (.ld cMk ((A, l.length, z), (ocSt l), (ocDl l)) (fun _ hS => (holds_blk0 hS)))) <| .c (.v fun G => .mv) <| .c (Sp.cr Tryz.func43 (fun G => (fo_c A z l hk (ocSt l) (ocDl l) B y N h1 h15)) fun _ _ hH => ⟨(hH.oldBlk hR.1 (by simp)), (hH.vu hR.2.2.1 (by decide) (Off.nil _ _)), (hH.vu hR.2.2.2.1 (by decide) (Off.nil _ _))⟩) <| .c (.v fun G => (fun _ _ hF => opBuildP (cells := cWk.enc (((A, l.length, z), (ocSt l), (ocDl l)), (of0 (aeE l) N), 0)) rfl (EvP.cons (v := (cMk.val ((A, l.length, z), (ocSt l), (ocDl l)))) (hF.ev 0 rfl) (EvP.cons (v := ((cArr 16).val (of0 (aeE l) N))) (hF.ev 1 rfl) EvP.nil)) (built_2of3 (A := cMk) (B := cArr 16) (C := cNat .u64) ((none, 0, 0), fun _ => 0, fun _ => 0) (fun _ => 0) 0 (by kernel_rfl) (by kernel_rfl) rfl rfl) _)) <| .c (.a (fun _ _ _ _ => trivial) (fun G => (.al cWk (((none, 0, 0), fun _ => 0, fun _ => 0), (fun _ => 0), 0))) fun _ _ _ h => h) <| .c (.tn (fun G => (.sw cWk (((none, 0, 0), fun _ => 0, fun _ => 0), (fun _ => 0), 0) (((A, l.length, z), (ocSt l), (ocDl l)), (of0 (aeE l) N), 0))) (fun _ _ _ _ => trivial) fun _ _ _ h => h) <| .nil) ?_
  clear hH
  rintro G w - hH
  revert hH
  generalize (G 5).g = g6
  intro hH
  refine rn ?_
  replace hH : HH w0 [] [[bl g6 78 (cWk.enc (((A, l.length, z), (ocSt l), (ocDl l)), (of0 (aeE l) N), 0))], [bl g2 5 cur4], [bl g1 73 (cMk.enc ((A, l.length, z), (ocSt l), (ocDl l)))]] w := HH.sel hH [2, 1, 0] rfl (by decide)
  replace hH : HH w0 [] [([[bl g6 78 (cWk.enc (((A, l.length, z), (ocSt l), (ocDl l)), (of0 (aeE l) N), 0))], [bl g2 5 cur4]] : List Hl).flatten, [bl g1 73 (cMk.enc ((A, l.length, z), (ocSt l), (ocDl l)))]] w := hH.cast (by simp)
  refine zx ?_
  replace hH := hH.drew
  refine rv 0 .mv 0 ?_
  refine rv 1 .mv 0 ?_
  refine rv 2 .len 1 ?_
  refine rv 3 (v := (.slice (some ⟨g2, 0, none⟩) p.length (p.length + 16))) (fun _ _ hF => opCutH (h := p.length) (e := 5) (sz := 1) rfl (by kernel_rfl) (by kernel_rfl) (hF.ev 1 rfl) (hF.ev 0 rfl) rfl (by omega)) 3 ?_
  refine rld 4 (hH.q 1 rfl) (.ld cMk ((A, l.length, z), (ocSt l), (ocDl l)) (fun _ hS => (holds_blk0 hS))) 8 ?_
  refine rv 5 (v := (.func (.func 45) #[(cMk.val ((A, l.length, z), (ocSt l), (ocDl l)))] #[])) (fun _ _ hF => opMakeFuncB rfl (Evs.cons (v := (cMk.val ((A, l.length, z), (ocSt l), (ocDl l)))) (hF.ev 0 rfl) Evs.nil)) 1 ?_
  refine rx1k 6 ?_
  refine re 6 0 hH rfl (.call Tryz.func44 (thraeE_c A z l hk (ocSt l) (ocDl l) (of0 (aeE l) N) g6 g2 p.length (p.length + 16) (p.length + 16) cur4 T1 hB1 (by omega) (by omega) (by omega))) (⟨(hH.oldBlk hR.1 (by simp)), (hH.oldBlk hR.2.1 (by simp)), (hH.vu hR.2.2.1 (by decide) (Off.nil _ _)), (hH.off 0 rfl hR.2.2.1 (by decide) (Off.nil _ _))⟩) 3 (pgo [5] (.nil _ [])) ?_
  clear hH
  rintro _ _ w ⟨rfl, cu7, rfl, hBt8⟩ hH
  refine ⟨pnil, ?_⟩
  refine rn ?_
  replace hH : HH w0 [] [[bl g6 78 (cWk.enc (((A, l.length, z), (ocSt l), (ocDl l)), ofE (ocSt l) (ocDl l) (of0 (aeE l) N) p.length, p.length / 16))], [bl g2 5 cu7], [bl g1 73 (cMk.enc ((A, l.length, z), (ocSt l), (ocDl l)))]] w := hH.cast (by simp)
  obtain ⟨T2, hB2, hT2, hl2⟩ : ∃ T, Bk cByte (p.length + 16) cu7 T ∧ T = (thL (aeE l) (aeE l) (ocSt l) (ocDl l) (of0 (aeE l) N) p) ++ List.replicate 16 0 ∧ T.length = p.length + 16 := ⟨_, hBt8, by rw [hT1, List.take_left, List.drop_left], by rw [hT1, List.take_left, List.drop_left, List.length_append, thL_len, List.length_replicate]⟩
  have hz2 : (cu7).size = (p.length + 16) * 1 := hB2.size
  refine zr ?_
  refine zv .mv 9 ?_
  refine zv .mv 0 ?_
  refine zc Tryz.func46 (tag_o A z l hk (ocSt l) (ocDl l) (ofE (ocSt l) (ocDl l) (of0 (aeE l) N) p.length) g6 (p.length / 16) Aa ya a (by omega) Ap yp p (by omega)) (⟨(hH.blk 0 rfl), (hH.oldBlk hR.1 (by simp)), (hH.oldBlk hR.2.1 (by simp)), (hH.vu hR.2.2.1 (by decide) (Off.nil _ _)), (hH.vu hR.2.2.2.2.1 (by decide) (Off.nil _ _)), (hH.vu hR.2.2.2.2.2 (by decide) (Off.nil _ _))⟩) hH 7 ?_
  clear hH
  intro w hH
  refine zm hH (.al (cArr 16) (fun _ => 0)) trivial 0 ?_
  clear hH
  rintro _ _ w ⟨g9, rfl, rfl⟩ hH
  refine ze0 3 hH rfl (.sw (cArr 16) (fun _ => 0) (added (aeE l (added (smL p) (added (ofE (ocSt l) (ocDl l) (of0 (aeE l) N) p.length) (ocDl l)))) (hsL (aeE l) (ocSt l) (ocDl l) a))) trivial ?_
  clear hH
  rintro _ _ w rfl hH
  refine zn ?_
  refine zx ?_
  replace hH := hH.drew
  refine rv 0 .mv 2 ?_
  refine rv 1 .mv 8 ?_
  refine rv 2 .len 1 ?_
  refine rv 3 (v := (.slice (some ⟨g2, 0 + p.length * 1, none⟩) ((p.length + 16) - p.length) ((p.length + 16) - p.length))) (fun _ _ hF => opSlcL (k := p.length) (e := 5) (sz := 1) rfl (by kernel_rfl) (by kernel_rfl) (hF.ev 1 rfl) (hF.ev 0 rfl) rfl (by omega) (by omega)) 3 ?_
  refine rv 4 (v := (.slice (some ⟨g9, 0, none⟩) 16 16)) (fun _ _ hF => opSliceA (n := 16) (e := 5) (sz := 1) rfl (by kernel_rfl) (by kernel_rfl) (hF.ev 1 rfl)) 2 ?_
  obtain ⟨cur11, hcs12, hB10⟩ : ∃ cs, putL cu7 (0 + p.length * 1) (flat cByte (lst 16 (added (aeE l (added (smL p) (added (ofE (ocSt l) (ocDl l) (of0 (aeE l) N) p.length) (ocDl l)))) (hsL (aeE l) (ocSt l) (ocDl l) a)))) = cs ∧ Bk cByte (p.length + 16) cs (T2.take p.length ++ ((lst 16 (added (aeE l (added (smL p) (added (ofE (ocSt l) (ocDl l) (of0 (aeE l) N) p.length) (ocDl l)))) (hsL (aeE l) (ocSt l) (ocDl l) a))) ++ T2.drop (p.length + (lst 16 (added (aeE l (added (smL p) (added (ofE (ocSt l) (ocDl l) (of0 (aeE l) N) p.length) (ocDl l)))) (hsL (aeE l) (ocSt l) (ocDl l) a))).length))) := ⟨_, rfl, hB2.copy p.length (lst 16 (added (aeE l (added (smL p) (added (ofE (ocSt l) (ocDl l) (of0 (aeE l) N) p.length) (ocDl l)))) (hsL (aeE l) (ocSt l) (ocDl l) a))) (by rw [lst_len]; omega)⟩
  refine rx1k 5 ?_
  refine re 5 1 hH rfl (fun _ hF => smCopyT (C := cByte) (m := (lst 16 (added (aeE l (added (smL p) (added (ofE (ocSt l) (ocDl l) (of0 (aeE l) N) p.length) (ocDl l)))) (hsL (aeE l) (ocSt l) (ocDl l) a)))) (e := 5) rfl (by kernel_rfl) (by kernel_rfl) (ltb rfl) (hF.ev 1 rfl) (hF.ev 0 rfl) (by omega) (lst_len _ _) (by omega) hcs12) (vu_arr (hH.blk 3 rfl)) 3 (.nil _ []) ?_
  clear hH
  rintro _ _ w ⟨rfl, rfl⟩ hH
  refine ⟨pnil, ?_⟩
  refine rn ?_
  refine zr ?_
  refine zv .mv 3 ?_
  refine zv .mv 1 ?_
  refine zv .mv 0 ?_
  refine zn ?_
  refine cxRet ?_
  refine qxRet2 1 0 rfl rfl rfl ?_
  have hfin : (T2.take p.length ++ ((lst 16 (added (aeE l (added (smL p) (added (ofE (ocSt l) (ocDl l) (of0 (aeE l) N) p.length) (ocDl l)))) (hsL (aeE l) (ocSt l) (ocDl l) a))) ++ T2.drop (p.length + (lst 16 (added (aeE l (added (smL p) (added (ofE (ocSt l) (ocDl l) (of0 (aeE l) N) p.length) (ocDl l)))) (hsL (aeE l) (ocSt l) (ocDl l) a))).length))) = ocS l N a p := by
    rw [lst_len, hT2, List.take_left' thL_len, List.drop_eq_nil_of_le (by rw [List.length_append, thL_len, List.length_replicate]; exact Nat.le_refl _), List.append_nil]
    rfl
  have hfl : (ocS l N a p).length = p.length + 16 := ocS_len _ _ _ _
  exact ⟨_, _, rfl, ⟨_, rfl, (hfin ▸ hB10 : Bk cByte _ _ (ocS l N a p)).own 5 g2 hfl⟩, hH.out1 [false, true, false, false] rfl⟩
end Go.Proofs.YtfloiekaiiapnaaGreatDoor

namespace Go.Proofs.YtfloiekaiiapnaaGreatDoor
open Go Go.RowKit
set_option maxRecDepth 100000

theorem pseal_n (A : Option Addr) (k z : Nat) (l : List UInt8) (hk : l.length = 32) (B : Option Addr) (n y : Nat) (N : List UInt8) (hN : N.length = 15) (Aa : Option Addr) (m ya : Nat) (a : List UInt8) (ha : a.length ≤ 100000000) (Ap : Option Addr) (q yp : Nat) (p : List UInt8) (hp : p.length ≤ 100000000) : Does Tryz.prog 29 #[(.slice A k z), (.slice B n y), (.slice Aa m ya), (.slice Ap q yp)] [] (fun w => w.heap[2]? = some (.cells ((cArr 256).enc boxF) 105 (0, 0)) ∧ w.heap[4]? = some (.cells ((cArr 64).enc dbF) 104 (0, 0)) ∧ Vu cByte w A k z l ∧ Vu cByte w B n y N ∧ Vu cByte w Aa m ya a ∧ Vu cByte w Ap q yp p) (fun v E' => ∃ s, v = .tuple #[s, .int .i64 0] ∧ OwnT cByte 5 s (ocS l N a p) E') := fun w hE hR => by
  obtain rfl := hR.2.2.1.len
  obtain rfl := hR.2.2.2.1.len
  obtain rfl := hR.2.2.2.2.1.len
  obtain rfl := hR.2.2.2.2.2.len
  exact seal_o A z l (.inr hk) B y N (by omega) (by omega) Aa ya a (by omega) Ap yp p (by omega) w hE hR
theorem popen_n (A : Option Addr) (k z : Nat) (l : List UInt8) (hk : l.length = 32) (B : Option Addr) (n y : Nat) (N : List UInt8) (hN : N.length = 15) (Aa : Option Addr) (m ya : Nat) (a : List UInt8) (ha : a.length ≤ 100000000) (Ap : Option Addr) (q yp : Nat) (p : List UInt8) (hp : p.length ≤ 100000000) : Does Tryz.prog 55 #[(.slice A k z), (.slice B n y), (.slice Aa m ya), (.slice Ap q yp)] [] (fun w => w.heap[2]? = some (.cells ((cArr 256).enc boxF) 105 (0, 0)) ∧ w.heap[4]? = some (.cells ((cArr 64).enc dbF) 104 (0, 0)) ∧ Vu cByte w A k z l ∧ Vu cByte w B n y N ∧ Vu cByte w Aa m ya a ∧ Vu cByte w Ap q yp p) (fun v E' => ∃ s, v = .tuple #[s, .int .i64 (((ocE l N a p) : Nat) : Int)] ∧ OwnT cByte 5 s (ocR l N a p) E') := fun w hE hR => by
  obtain rfl := hR.2.2.1.len
  obtain rfl := hR.2.2.2.1.len
  obtain rfl := hR.2.2.2.2.1.len
  obtain rfl := hR.2.2.2.2.2.len
  exact open_o A z l (.inr hk) B y N (by omega) (by omega) Aa ya a (by omega) Ap yp p (by omega) w hE hR

set_option maxHeartbeats 8000000 in
theorem slEq_s (A : Option Addr) (n c : Nat) (l : List UInt8) (hn : n ≤ 140737488355328) (B : Option Addr) (m d : Nat) (x : List UInt8) : Pure Tryz.prog 40 #[(.slice A n c), (.slice B m d)] (fun w => Vu cByte w A n c l ∧ Vu cByte w B m d x) (.bool (decide (l = x))) := by
  refine pure_of (fn := Tryz.f40) Tryz.func40 rfl Tryz.ntmps40 (Nat.le_of_ble_eq_true rfl) rfl ?_
  intro w0 hH hR
  have hl1 := hR.1.len; have hl2 := hR.2.len
  refine zr ?_
  refine zv .mv 0 ?_
  refine zn ?_
  refine cxSeq ?_
  refine zr ?_
  refine zv .mv 1 ?_
  refine zv .len 1 ?_
  refine zv .mv 0 ?_
  refine zv .len 1 ?_
  refine zv (.ne (n ≠ m)) 3 ?_
  refine zn ?_
  refine zP (fun hc1 => ?_) (fun hc1 => ?_)
  refine zr ?_
  refine zv .mv 7 ?_
  refine zn ?_
  refine cxRet ?_
  refine qxThenR ?_
  refine qxRet1 0 rfl rfl ?_
  have he : ¬ l = x := fun h => by have := congrArg List.length h; omega
  exact ⟨by rw [decide_eq_false he], HH.toBelow hH⟩
  refine cxSkip ?_
  refine qxThen ?_
  refine cxSeq ?_
  refine zr ?_
  refine zv .mv 1 ?_
  refine zv .len 1 ?_
  refine zv .mv 0 ?_
  refine zn ?_
  refine cxBlock ?_
  refine zL1 (fun (i : Nat) => [(13, (.int .i64 (((i) : Nat) : Int))), (12, (.int .i64 (((n) : Nat) : Int))), (1, (.slice B m d)), (0, (.slice A n c))]) (fun i w => HH w0 [] [] w ∧ (i ≤ n) ∧ (l.take i = x.take i)) (fun i => n - i) 0 ⟨hH, (Nat.zero_le _), rfl⟩ ?_
  clear hH
  rintro i w ⟨hH, hi, hE⟩
  refine zr ?_
  refine zv (.lt (i < n)) 0 ?_
  refine zn ?_
  refine cxSeq ?_
  refine zP (fun hc2 => ?_) (fun hc2 => ?_)
  refine cxSkip ?_
  refine qxThen ?_
  refine cxSeq ?_
  refine cxBlock ?_
  refine zr ?_
  refine zv .mv 1 ?_
  refine zv .mv 1 ?_
  refine zn ?_
  refine zx ?_
  replace hH := hH.drew
  refine rv 0 .mv 0 ?_
  refine rv 1 .mv 0 ?_
  have hi3 : i < n := by omega
  obtain ⟨b4, off5, rfl, hL6, hb7, hR8⟩ := hR.1.blk (by decide) (Off.nil _ _) (by omega)
  have := hR.1.cap
  have hj11 : i < l.length := by first | exact hi3 | (simp only [List.length_drop]; omega) | (simp only [List.length_drop, List.length_take]; omega) | omega
  obtain ⟨x9, hx10⟩ := get_at l i hj11
  have hb12 := UInt8.toNat_lt x9
  refine rv 2 (.ix 1 i (hi := hi3)) 3 ?_
  refine rld 3 (S := fun w => HoldsL cByte w b4 off5 l) (hH.holdsL hL6 hb7 hR8) (.ld cByte x9 (fun _ hS => (hS i _ hx10))) 1 ?_
  refine rv 4 .mv 0 ?_
  refine rv 5 .mv 4 ?_
  have hi13 : i < m := by omega
  obtain ⟨b14, off15, rfl, hL16, hb17, hR18⟩ := hR.2.blk (by decide) (Off.nil _ _) (by omega)
  have := hR.2.cap
  have hj21 : i < x.length := by first | exact hi13 | (simp only [List.length_drop]; omega) | (simp only [List.length_drop, List.length_take]; omega) | omega
  obtain ⟨x19, hx20⟩ := get_at x i hj21
  have hb22 := UInt8.toNat_lt x19
  refine rv 6 (.ix 1 i (hi := hi13)) 3 ?_
  refine rld 7 (S := fun w => HoldsL cByte w b14 off15 x) (hH.holdsL hL16 hb17 hR18) (.ld cByte x19 (fun _ hS => (hS i _ hx20))) 1 ?_
  refine rv 8 (.ne (x9.toNat ≠ x19.toNat)) 3 ?_
  refine rn ?_
  refine zP (fun hc23 => ?_) (fun hc23 => ?_)
  refine zr ?_
  refine zv .mv 31 ?_
  refine zn ?_
  refine cxRet ?_
  refine qxInR ?_
  refine qxThenR ?_
  refine qxThenR ?_
  refine qxInR ?_
  refine qxThenR ?_
  refine qxRet1 0 rfl rfl ?_
  have he : ¬ l = x := fun h => by rw [h, hx20] at hx10; exact hc23 (by rw [Option.some.inj hx10])
  exact ⟨by rw [decide_eq_false he], HH.toBelow hH⟩
  refine cxSkip ?_
  refine qxInN ?_
  refine qxThen ?_
  refine cxReg ?_
  refine zv (.add ((i + 1 : Nat) : Int)) 3 ?_
  refine zv .mv 1 ?_
  refine pxEnd ?_
  exact zR1 (i + 1) ⟨hH, (by omega), (by rw [List.take_add_one, List.take_add_one, hx10, hx20, hE, UInt8.toNat_inj.1 (Decidable.not_not.1 hc23)])⟩ (by omega)
  refine cxExit ?_
  refine qxThenE ?_
  refine qxThenE ?_
  refine qxInE ?_
  refine qxThen ?_
  refine zr ?_
  refine zv .mv 31 ?_
  refine zn ?_
  refine cxRet ?_
  refine qxRet1 0 rfl rfl ?_
  have he : l = x := by rw [List.take_of_length_le (by omega), List.take_of_length_le (by omega)] at hE; exact hE
  exact ⟨by rw [decide_eq_true he], HH.toBelow hH⟩

set_option maxHeartbeats 8000000 in
theorem seal_s (g : Nat) (A : Option Addr) (z : Nat) (K : List UInt8) (B : Option Addr) (y : Nat) (b : List UInt8) (Ai : Option Addr) (yi : Nat) (I : List UInt8) (i m : Nat) (Ap : Option Addr) (n yp : Nat) (p : List UInt8) (hp : n ≤ 100000000) (hi : i < 18446744073709551615) (hm : m < 4611686018427387904) : Does Tryz.prog 15 #[(.pointer (some ⟨g, 0, none⟩)), (.slice Ap n yp)] [bl g 55 (cRn.enc ((A, 32, z), (B, 7, y), (Ai, 5, yi), i, m))] (fun w => w.heap[2]? = some (.cells ((cArr 256).enc boxF) 105 (0, 0)) ∧ w.heap[4]? = some (.cells ((cArr 64).enc dbF) 104 (0, 0)) ∧ (Vu cByte w A 32 z K ∧ Off A 32 [g]) ∧ (Vu cByte w B 7 y b ∧ Off B 7 [g]) ∧ (Vu cByte w Ai 5 yi I ∧ Off Ai 5 [g]) ∧ Vu cByte w Ap n yp p ∧ Off Ap n [g]) (fun v E' => ∃ s Es, v = s ∧ E' = [bl g 55 (cRn.enc ((A, 32, z), (B, 7, y), (Ai, 5, yi), (i + 1), (m + n)))] ++ Es ∧ OwnT cByte 5 s (ocS K (spN b i) I p) Es) := by
  refine does_of (fn := Tryz.f15) Tryz.func15 rfl Tryz.ntmps15 (Nat.le_of_ble_eq_true rfl) rfl ?_
  intro w0 hH hR
  have hb0 : 2 ∉ [g] := ne_ty hR.1 (hH.blk 0 rfl) rfl
  have hd0 : 4 ∉ [g] := ne_ty hR.2.1 (hH.blk 0 rfl) rfl
  have hKl := hR.2.2.1.1.len
  have hbl := hR.2.2.2.1.1.len
  have hIl := hR.2.2.2.2.1.1.len
  have hpl := hR.2.2.2.2.2.1.len
  refine zr ?_
  refine zv .mv 0 ?_
  refine zn ?_
  refine zx ?_
  replace hH := hH.drew
  refine rv 0 .mv 1 ?_
  refine rv 1 .nc 1 ?_
  refine rv 2 (.fld 0) 1 ?_
  refine rld 3 (hH.q 0 rfl) (.ld cSl (A, 32, z) (fun _ hS => (holds_blk0 hS).fst) (v := (.slice A 32 z))) 1 ?_
  refine rv 4 .mv 0 ?_
  refine rv 6 .mv 0 ?_
  refine rv 7 .nc 1 ?_
  refine rv 8 (.fld 2) 1 ?_
  refine rld 9 (hH.q 0 rfl) (.ld cSl (Ai, 5, yi) (fun _ hS => (((holds_blk0 hS).snd).snd).fst) (v := (.slice Ai 5 yi))) 1 ?_
  refine rv 10 .mv 0 ?_
  refine rx1k 5 ?_
  refine rm 5 hH (.call Tryz.func30 ((nonce_s g A z B y b Ai yi i m))) (⟨(hH.blk 0 rfl), (hH.vu hR.2.2.2.1.1 (by decide) hR.2.2.2.1.2)⟩) 4 (.keep (.keep (.nil _ []))) ?_
  clear hH
  rintro v5 E1 w hO2 hH
  obtain ⟨A3, c4, rfl⟩ := hO2.slice
  refine ⟨pcons (hH.blk 0 rfl) (pcons (hH.blk 0 rfl) pnil), ?_⟩
  refine rx1k 11 ?_
  refine rm 11 hH (.call Tryz.func29 ((pseal_n A 32 z K (by omega) A3 ((spN b i).length) c4 (spN b i) (spN_len (by omega) _) Ai 5 yi I (by omega) Ap n yp p (by omega)))) (⟨(hH.oldBlk hR.1 hb0), (hH.oldBlk hR.2.1 hd0), (hH.vu hR.2.2.1.1 (by decide) hR.2.2.1.2), (hO2.vuAt (hH.has 1 rfl)), (hH.vu hR.2.2.2.2.1.1 (by decide) hR.2.2.2.2.1.2), (hH.vu hR.2.2.2.2.2.1 (by decide) hR.2.2.2.2.2.2)⟩) 15 (pgo [] (pgo [] (.nil _ []))) ?_
  clear hH
  rintro _ E8 w ⟨s7, rfl, hO9⟩ hH
  obtain ⟨A10, c11, rfl⟩ := hO9.slice
  refine ⟨pnil, ?_⟩
  refine rv 12 .mv 1 ?_
  refine rv 13 .ext 0 ?_
  refine rv 14 .ext 2 ?_
  refine rv 15 .mv 2 ?_
  refine rv 16 .mv 2 ?_
  refine rn ?_
  refine zr ?_
  refine zv .mv 5 ?_
  refine zv .mv 4 ?_
  refine zv .len 1 ?_
  refine ze 0 hH rfl (.call Tryz.func31 ((past_s g A z B y Ai yi i m n (by omega) (by omega) (by omega)))) trivial 3 ?_
  clear hH
  rintro _ _ w ⟨rfl, rfl⟩ hH
  refine zn ?_
  refine zr ?_
  refine zv .mv 3 ?_
  refine zv .mv 1 ?_
  refine zn ?_
  refine cxRet ?_
  refine qxRet1 0 rfl rfl ?_
  exact ⟨_, _, rfl, ⟨_, E8, rfl, rfl, hO9⟩, by simpa [pickG] using hH.out [true, false, true]⟩

/-- A chunk is sealed so, of some bytes. -/
def opK (K N A S : List UInt8) : Prop := ocG K N A S ∧ (ocP K N S).length ≠ 0
instance (K N A S : List UInt8) : Decidable (opK K N A S) := by unfold opK ocG; infer_instance
def opE (K N A S : List UInt8) : Nat := if opK K N A S then 0 else 5
def opR (K N A S : List UInt8) : List UInt8 := if opK K N A S then ocP K N S else []
def opI (K N A S : List UInt8) (i : Nat) : Nat := if opK K N A S then i + 1 else i

set_option maxHeartbeats 8000000 in
theorem open_s (g : Nat) (A : Option Addr) (z : Nat) (K : List UInt8) (B : Option Addr) (y : Nat) (b : List UInt8) (Ai : Option Addr) (yi : Nat) (I : List UInt8) (i m : Nat) (Ap : Option Addr) (n yp : Nat) (p : List UInt8) (hp : n ≤ 100000000) (hi : i < 18446744073709551615) (hm : m < 4611686018427387904) : Does Tryz.prog 39 #[(.pointer (some ⟨g, 0, none⟩)), (.slice Ap n yp)] [bl g 55 (cRn.enc ((A, 32, z), (B, 7, y), (Ai, 5, yi), i, m))] (fun w => w.heap[2]? = some (.cells ((cArr 256).enc boxF) 105 (0, 0)) ∧ w.heap[4]? = some (.cells ((cArr 64).enc dbF) 104 (0, 0)) ∧ (Vu cByte w A 32 z K ∧ Off A 32 [g]) ∧ (Vu cByte w B 7 y b ∧ Off B 7 [g]) ∧ (Vu cByte w Ai 5 yi I ∧ Off Ai 5 [g]) ∧ Vu cByte w Ap n yp p ∧ Off Ap n [g]) (fun v E' => ∃ s Es, v = .tuple #[s, .int .i64 ((opE K (spN b i) I p : Nat) : Int)] ∧ E' = [bl g 55 (cRn.enc ((A, 32, z), (B, 7, y), (Ai, 5, yi), (opI K (spN b i) I p i), (m + (opR K (spN b i) I p).length)))] ++ Es ∧ OwnT cByte 5 s (opR K (spN b i) I p) Es) := by
  refine does_of (fn := Tryz.f39) Tryz.func39 rfl Tryz.ntmps39 (Nat.le_of_ble_eq_true rfl) rfl ?_
  intro w0 hH hR
  have hb0 : 2 ∉ [g] := ne_ty hR.1 (hH.blk 0 rfl) rfl
  have hd0 : 4 ∉ [g] := ne_ty hR.2.1 (hH.blk 0 rfl) rfl
  have hKl := hR.2.2.1.1.len
  have hbl := hR.2.2.2.1.1.len
  have hIl := hR.2.2.2.2.1.1.len
  have hpl := hR.2.2.2.2.2.1.len
  refine zr ?_
  refine zv .mv 0 ?_
  refine zv .mv 1 ?_
  refine zn ?_
  refine zx ?_
  replace hH := hH.drew
  refine rv 0 .mv 1 ?_
  refine rv 1 .nc 1 ?_
  refine rv 2 (.fld 0) 1 ?_
  refine rld 3 (hH.q 0 rfl) (.ld cSl (A, 32, z) (fun _ hS => (holds_blk0 hS).fst) (v := (.slice A 32 z))) 1 ?_
  refine rv 4 .mv 0 ?_
  refine rv 6 .mv 0 ?_
  refine rv 7 .nc 1 ?_
  refine rv 8 (.fld 2) 1 ?_
  refine rld 9 (hH.q 0 rfl) (.ld cSl (Ai, 5, yi) (fun _ hS => (((holds_blk0 hS).snd).snd).fst) (v := (.slice Ai 5 yi))) 1 ?_
  refine rv 10 .mv 16 ?_
  refine rx1k 5 ?_
  refine rm 5 hH (.call Tryz.func30 ((nonce_s g A z B y b Ai yi i m))) (⟨(hH.blk 0 rfl), (hH.vu hR.2.2.2.1.1 (by decide) hR.2.2.2.1.2)⟩) 4 (.keep (.keep (.nil _ []))) ?_
  clear hH
  rintro v5 E1 w hO2 hH
  obtain ⟨A3, c4, rfl⟩ := hO2.slice
  refine ⟨pcons (hH.blk 0 rfl) (pcons (hH.blk 0 rfl) pnil), ?_⟩
  refine rx1k 11 ?_
  refine rm 11 hH (.call Tryz.func55 ((popen_n A 32 z K (by omega) A3 ((spN b i).length) c4 (spN b i) (spN_len (by omega) _) Ai 5 yi I (by omega) Ap n yp p (by omega)))) (⟨(hH.oldBlk hR.1 hb0), (hH.oldBlk hR.2.1 hd0), (hH.vu hR.2.2.1.1 (by decide) hR.2.2.1.2), (hO2.vuAt (hH.has 1 rfl)), (hH.vu hR.2.2.2.2.1.1 (by decide) hR.2.2.2.2.1.2), (hH.vu hR.2.2.2.2.2.1 (by decide) hR.2.2.2.2.2.2)⟩) 15 (pgo [] (pgo [] (.nil _ []))) ?_
  clear hH
  rintro _ E8 w ⟨s7, rfl, hO9⟩ hH
  obtain ⟨A10, c11, rfl⟩ := hO9.slice
  refine ⟨pnil, ?_⟩
  refine rv 12 .mv 1 ?_
  refine rv 13 .ext 0 ?_
  refine rv 14 .ext 2 ?_
  refine rv 15 .mv 2 ?_
  refine rv 16 .mv 2 ?_
  refine rn ?_
  refine cxSeq ?_
  refine zr ?_
  refine zv .mv 1 ?_
  refine zv (.ne ((ocE K (spN b i) I p) ≠ 0)) 1 ?_
  refine zv .mv 1 ?_
  refine pxSplitP 0 rfl (l1 := [(25, (.bool true)), (6, (.slice A10 ((ocR K (spN b i) I p).length) c11)), (0, (.pointer (some ⟨g, 0, none⟩)))]) (l2 := [(25, (.bool false)), (6, (.slice A10 ((ocR K (spN b i) I p).length) c11)), (0, (.pointer (some ⟨g, 0, none⟩)))]) rfl rfl (fun hg12 => ?_) (fun hg12 => ?_)
  refine pxU rfl (gOff 0 rfl rfl rfl (by decide)) (kA rfl) (by decide) ?_
  refine pxU rfl (gOff 0 rfl rfl rfl (by decide)) (kA rfl) (by decide) ?_
  refine pxU rfl (gOff 0 rfl rfl rfl (by decide)) (kA rfl) (by decide) ?_
  refine zv (v := (.bool true)) (fun _ _ hF => opPickT rfl (hF.ev 0 rfl) rfl) 1 ?_
  refine zn ?_
  refine zT ?_
  refine zr ?_
  refine zv .mv 7 ?_
  refine zv .mv 0 ?_
  refine zn ?_
  refine cxRet ?_
  refine qxThenR ?_
  refine qxRet2 1 0 rfl rfl rfl ?_
  have hg : ¬ opK K (spN b i) I p := fun g => ocE_1 hg12 g.1
  have h1 : opE K (spN b i) I p = 5 := if_neg hg
  have h2 : opR K (spN b i) I p = [] := if_neg hg
  have h3 : opI K (spN b i) I p i = i := if_neg hg
  exact ⟨_, _, rfl, ⟨_, [], by rw [h1]; rfl, by rw [h2, h3], by rw [h2]; exact OwnT.nil _ _⟩, by simpa [pickG] using hH.out [true, false, false]⟩
  refine pxV (v := (.slice A10 ((ocR K (spN b i) I p).length) c11)) (fun _ _ hF => opMove rfl (hF.ev 1 rfl)) rfl (gOn 0 rfl rfl rfl (by decide)) (kA rfl) (by decide) ?_
  refine pxV (v := (.int .i64 ((((ocR K (spN b i) I p).length) : Nat) : Int))) (fun _ _ hF => opLen (e := 5) rfl (by kernel_rfl) (hF.ev 0 rfl)) rfl (gOn 1 rfl rfl rfl (by decide)) (kM [false, true, true, true] rfl rfl) (by decide) ?_
  refine pxV (v := (.bool (decide ((ocR K (spN b i) I p).length = 0)))) (fun _ _ hF => opEqI rfl (hF.ev 0 rfl) rfl (dc (by omega))) rfl (gOn 1 rfl rfl rfl (by decide)) (kM [false, true, true, true] rfl rfl) (by decide) ?_
  refine zv (v := (.bool (decide ((ocR K (spN b i) I p).length = 0)))) (fun _ _ hF => opPickF rfl (hF.ev 1 rfl) (hF.ev 0 rfl)) 3 ?_
  refine zn ?_
  refine zP (fun hc13 => ?_) (fun hc13 => ?_)
  refine zr ?_
  refine zv .mv 7 ?_
  refine zv .mv 0 ?_
  refine zn ?_
  refine cxRet ?_
  refine qxThenR ?_
  refine qxRet2 1 0 rfl rfl rfl ?_
  have hg : ¬ opK K (spN b i) I p := fun g => g.2 (by rw [← (ocE_0 hg12).2]; exact hc13)
  have h1 : opE K (spN b i) I p = 5 := if_neg hg
  have h2 : opR K (spN b i) I p = [] := if_neg hg
  have h3 : opI K (spN b i) I p i = i := if_neg hg
  exact ⟨_, _, rfl, ⟨_, [], by rw [h1]; rfl, by rw [h2, h3], by rw [h2]; exact OwnT.nil _ _⟩, by simpa [pickG] using hH.out [true, false, false]⟩
  refine cxSkip ?_
  refine qxThen ?_
  have hrl : (ocR K (spN b i) I p).length ≤ n := by rw [(ocE_0 hg12).2, ocP_len]; omega
  refine zr ?_
  refine zv .mv 5 ?_
  refine zv .mv 0 ?_
  refine zv .len 1 ?_
  refine ze 0 hH rfl (.call Tryz.func31 ((past_s g A z B y Ai yi i m ((ocR K (spN b i) I p).length) (by omega) (by omega) (by omega)))) trivial 3 ?_
  clear hH
  rintro _ _ w ⟨rfl, rfl⟩ hH
  refine zn ?_
  refine zr ?_
  refine zv .mv 3 ?_
  refine zv .mv 1 ?_
  refine zv .mv 0 ?_
  refine zn ?_
  refine cxRet ?_
  refine qxRet2 1 0 rfl rfl rfl ?_
  obtain ⟨hgg, hrr⟩ := ocE_0 hg12
  have hg : opK K (spN b i) I p := ⟨hgg, by rw [← hrr]; exact hc13⟩
  have h1 : opE K (spN b i) I p = 0 := if_pos hg
  have h2 : opR K (spN b i) I p = ocR K (spN b i) I p := (if_pos hg).trans hrr.symm
  have h3 : opI K (spN b i) I p i = i + 1 := if_pos hg
  exact ⟨_, _, rfl, ⟨_, E8, by rw [h1]; rfl, by rw [h2, h3], by rw [h2]; exact hO9⟩, by simpa [pickG] using hH.out [true, false, true]⟩

set_option maxHeartbeats 8000000 in
theorem end_s (g : Nat) (A : Option Addr) (z : Nat) (K : List UInt8) (B : Option Addr) (y : Nat) (b : List UInt8) (Ai : Option Addr) (yi : Nat) (I : List UInt8) (i m : Nat) : Does Tryz.prog 16 #[(.pointer (some ⟨g, 0, none⟩))] [] (fun w => w.heap[g]? = some (.cells (cRn.enc ((A, 32, z), (B, 7, y), (Ai, 5, yi), i, m)) 55 (0, 0)) ∧ w.heap[2]? = some (.cells ((cArr 256).enc boxF) 105 (0, 0)) ∧ w.heap[4]? = some (.cells ((cArr 64).enc dbF) 104 (0, 0)) ∧ Vu cByte w A 32 z K ∧ Vu cByte w B 7 y b ∧ Vu cByte w Ai 5 yi I) (fun v E' => OwnT cByte 5 v (spE K b I i m) E') := by
  refine does_of (fn := Tryz.f16) Tryz.func16 rfl Tryz.ntmps16 (Nat.le_of_ble_eq_true rfl) rfl ?_
  intro w0 hH hR
  replace hH : HH w0 [] [] w0 := hH.only [false]
  have hKl := hR.2.2.2.1.len; have hbl := hR.2.2.2.2.1.len; have hIl := hR.2.2.2.2.2.len
  refine zr ?_
  refine zv .mv 0 ?_
  refine zn ?_
  refine zx ?_
  replace hH := hH.drew
  refine rv 0 .mv 1 ?_
  refine rv 1 .nc 1 ?_
  refine rv 2 (.fld 0) 1 ?_
  refine rld 3 (hH.ob hR.1) (.ld cSl (A, 32, z) (fun _ hS => (holds_blk0 hS).fst) (v := (.slice A 32 z))) 1 ?_
  refine rv 4 .mv 0 ?_
  refine rv 6 .mv 0 ?_
  refine rv 7 .nc 1 ?_
  refine rv 8 (.fld 2) 1 ?_
  refine rld 9 (hH.ob hR.1) (.ld cSl (Ai, 5, yi) (fun _ hS => (((holds_blk0 hS).snd).snd).fst) (v := (.slice Ai 5 yi))) 1 ?_
  refine rv 10 .mv 8 ?_
  refine rv 11 .nc 1 ?_
  refine rv 12 (.fld 4) 1 ?_
  refine rld 13 (hH.ob hR.1) (.ld (cNat .u64) m (fun _ hS => ((((holds_blk0 hS).snd).snd).snd).snd)) 1 ?_
  refine rx1k 5 ?_
  refine rm 5 hH (.call Tryz.func30 ((nonce_s g A z B y b Ai yi i m))) (⟨(hH.oldBlk hR.1 (by simp)), (hH.vu hR.2.2.2.2.1 (by decide) (Off.nil _ _))⟩) 4 (.keep (.keep (.keep (.nil _ [])))) ?_
  clear hH
  rintro v5 E1 w hO2 hH
  obtain ⟨A3, c4, rfl⟩ := hO2.slice
  refine ⟨pcons (hH.oldBlk hR.1 (by simp)) (pcons (hH.oldBlk hR.1 (by simp)) (pcons (hH.oldBlk hR.1 (by simp)) pnil)), ?_⟩
  refine rx1k 14 ?_
  refine rm 14 hH (.call Tryz.func33 ((eight_c m))) trivial 2 (pgo [] (.keep (.keep (.nil _ [])))) ?_
  clear hH
  rintro v11 E7 w hO8 hH
  obtain ⟨A9, c10, rfl⟩ := hO8.slice
  refine ⟨pcons (hH.oldBlk hR.1 (by simp)) (pcons (hH.oldBlk hR.1 (by simp)) pnil), ?_⟩
  refine rx1k 15 ?_
  refine rm 15 hH (fun _ hF => smLits (C := cSl) (e := 23) (z := (.slice none 0 0)) (by_ := 24) [(Ai, 5, yi), (A9, (beL 8 m).length, c10)] rfl (by kernel_rfl) (by kernel_rfl) (EvP.cons (v := cSl.val (Ai, 5, yi)) (hF.ev 2 rfl) (EvP.cons (v := cSl.val (A9, (beL 8 m).length, c10)) (hF.ev 0 rfl) EvP.nil)) rfl (ltb rfl) (leb rfl) rfl) trivial 5 (pgo [] (.keep (.nil _ []))) ?_
  clear hH
  rintro _ _ w ⟨g13, rfl, rfl⟩ hH
  refine ⟨pcons (hH.oldBlk hR.1 (by simp)) pnil, ?_⟩
  refine rx1k 16 ?_
  refine rm 16 hH (.call Tryz.func32 ((conc2 (some ⟨g13, 0, none⟩) 2 [(Ai, 5, yi), (A9, (beL 8 m).length, c10)] I (beL 8 m) (by simp only [beL_len]; omega)))) (⟨((Bk.lits (C := cSl) [(Ai, 5, yi), (A9, (beL 8 m).length, c10)] (by show 2 ≤ _; unfold maxLen; decide)).vu (n := 2) (hH.blk 2 rfl) rfl), (.cons (hH.vu hR.2.2.2.2.2 (by decide) (Off.nil _ _)) (.cons (hO8.vuAt (hH.has 1 rfl)) ViewsL.nil))⟩) 1 (.keep (.nil _ [])) ?_
  clear hH
  rintro v18 E14 w hO15 hH
  obtain ⟨A16, c17, rfl⟩ := hO15.slice
  refine ⟨pcons (hH.oldBlk hR.1 (by simp)) pnil, ?_⟩
  refine rx1k 17 ?_
  refine rm 17 hH (.call Tryz.func29 ((pseal_n A 32 z K (by omega) A3 ((spN b i).length) c4 (spN b i) (spN_len (by omega) _) A16 ((I ++ (beL 8 m)).length) c17 (I ++ (beL 8 m)) (by simp only [List.length_append, beL_len]; omega) none 0 0 ([]) (by simp only [List.length_nil]; omega)))) (⟨(hH.oldBlk hR.2.1 (by simp)), (hH.oldBlk hR.2.2.1 (by simp)), (hH.vu hR.2.2.2.1 (by decide) (Off.nil _ _)), (hO2.vuAt (hH.has 0 rfl)), (hO15.vuAt (hH.has 3 rfl)), (Vu.none cByte _)⟩) 7 (pgo [] (.nil _ [])) ?_
  clear hH
  rintro _ E21 w ⟨s20, rfl, hO22⟩ hH
  obtain ⟨A23, c24, rfl⟩ := hO22.slice
  refine ⟨pnil, ?_⟩
  refine rv 18 .mv 1 ?_
  refine rv 19 .ext 0 ?_
  refine rv 20 .ext 2 ?_
  refine rv 21 .mv 2 ?_
  refine rv 22 .mv 2 ?_
  refine rn ?_
  refine zr ?_
  refine zv .mv 3 ?_
  refine zv .mv 1 ?_
  refine zn ?_
  refine cxRet ?_
  refine qxRet1 0 rfl rfl ?_
  exact ⟨_, _, rfl, hO22, hH.out1 [false, false, false, false, true] rfl⟩
end Go.Proofs.YtfloiekaiiapnaaGreatDoor

namespace Go.Proofs.YtfloiekaiiapnaaGreatDoor
open Go Go.RowKit Go.Shelf
set_option maxRecDepth 100000

/-- How many bytes part i of n has, by z. -/
def plz (z n i : Nat) : Nat := min z (n - z * i)
/-- Part i of n bytes. -/
def pvz (z b off n i : Nat) : Value := .slice (some ⟨b, off + z * i, none⟩) (plz z n i) (plz z n i)
abbrev Ptz (z n : Nat) : Type := { i : Nat // z * i < n }
/-- Two blocks are as they were. -/
def Kpz (B : Nat) (W W' : World) : Prop := W'.heap[B]? = W.heap[B]? ∧ W'.heap[B + 1]? = W.heap[B + 1]?
theorem Kpz.trans {B : Nat} {W W' W'' : World} (h : Kpz B W W') (k : Kpz B W' W'') : Kpz B W W'' := ⟨k.1.trans h.1, k.2.trans h.2⟩
theorem Kpz.blk {B : Nat} {W W' : World} (h : Kpz B W W') {t : TypeId} {cs : Array Value} (hb : Blk W B t cs) : Blk W' B t cs := h.1.trans hb
theorem Kpz.blk1 {B : Nat} {W W' : World} (h : Kpz B W W') {t : TypeId} {cs : Array Value} (hb : Blk W (B + 1) t cs) : Blk W' (B + 1) t cs := h.2.trans hb

set_option maxHeartbeats 2000000 in
theorem chkz_c (z : Nat) (hz : 1 ≤ z) (A : Option Addr) (n c : Nat) (w : World) : Calls Tryz.prog 13 #[.slice A n c, .int .i64 z] w fun e w' =>
    e = .returned (.func (.func 28) #[] #[.pointer (some ⟨w.heap.size, 0, none⟩), .pointer (some ⟨w.heap.size + 1, 0, none⟩)]) ∧ w' = (w.alloc (.cells #[.slice A n c] 23)).alloc (.cells #[.int .i64 z] 3) := by
  go_enter Tryz.func13, Tryz.ntmps13
  have i1 : ¬ ((z : Nat) : Int) < 1 := by omega
  go_wp2
  go_ret
  exact ⟨rfl, rfl⟩

theorem drew_grz (w : World) : w.grownBy w.drew none := ⟨rfl, rfl, rfl, Nat.le_refl _, fun _ _ _ => rfl⟩

set_option maxHeartbeats 2000000 in
theorem chkz_in (m l Bs b off n c z : Nat) (A : Option Addr) (hz : 1 ≤ z) (hz2 : z ≤ 140737488355328) (hm : 1 ≤ m) (hA : 0 < n → A = some ⟨b, off, none⟩) (hnc : n ≤ c) (hc : n ≤ 140737488355328) (J Jx : List (Ptz z n) → World → Prop)
    (hJd : ∀ s w, J s w → J s w.drew)
    (hY : ∀ pre x W, J pre W → pre.length < (n + (z - 1)) / z → YieldAt Fence.wide (m - 1) Tryz.prog l #[pvz z b off n x.1] W fun e W' =>
      (e = .returned (.bool true) ∧ J (pre ++ [x]) W' ∧ Kpz Bs W W') ∨ (e = .returned (.bool false) ∧ Jx (pre ++ [x]) W'))
    (W : World) (h1 : Blk W Bs 23 #[.slice A n c]) (h2 : Blk W (Bs + 1) 3 #[.int .i64 z]) (h0 : J [] W) :
    CallsIn Fence.wide m Tryz.prog 28 #[.func (.yield l) #[] #[], .pointer (some ⟨Bs, 0, none⟩), .pointer (some ⟨Bs + 1, 0, none⟩)] W fun e W' => (∃ v, e = .returned v) ∧
      ((∃ ys, ys.map (·.1) = List.range ((n + (z - 1)) / z) ∧ J ys W') ∨ (∃ pre, pre.map (·.1) = List.range pre.length ∧ Jx pre W')) := by
  refine callsIn_of_wp Tryz.func28 rfl trivial ?_ rfl
  simp only [Tryz.ntmps28, List.size_toArray, List.length_cons, List.length_nil, Nat.reduceAdd, Nat.reduceSub, Array.replicate_succ, Array.replicate_zero, List.push_toArray, List.append_toArray, List.nil_append, List.cons_append]
  gi_wp2
  gi_loopw [4] (fun i wr => ∃ (p k : Nat) (ys : List (Ptz z n)), p = z * k ∧ p < n + z ∧ i = .int .i64 (p : Int) ∧ ys.map (·.1) = List.range k ∧ J ys wr ∧ Blk wr Bs 23 #[.slice A n c] ∧ Blk wr (Bs + 1) 3 #[.int .i64 z])
    (fun i _ => n + z - (intOf i).toNat)
  case atStart => exact ⟨0, 0, [], by simp, by omega, rfl, rfl, h0, h1, h2⟩
  case round =>
    obtain ⟨p, k, ys, hpk, hk, rfl, hys, hJ, hb1, hb2⟩ := hrel
    have e1 : wr.cell? ⟨Bs, 0, none⟩ = some (.slice A n c) := hb1.cell 0
    have e2 : wr.cell? ⟨Bs + 1, 0, none⟩ = some (.int .i64 z) := hb2.cell 0
    have hpk1 : z * (k + 1) = p + z := by rw [hpk, Nat.mul_add, Nat.mul_one]
    have HPK := Lib.hid hpk
    have HPK1 := Lib.hid hpk1
    clear hpk hpk1
    by_cases hlt : p < n
    · obtain rfl := hA (by omega)
      have i1 : ((p : Nat) : Int) < (n : Int) := by omega
      have i2 : 0 ≤ (p : Int) := by omega
      have i3 : (p : Int) ≤ (n : Int) := by omega
      have i4 : (p : Int).toNat = p := by omega
      have i5 : ¬ c = p := by omega
      gi_wp2
      refine wpIn_wide.2 ?_
      refine region_seq (fun w' => J ys w' ∧ Blk w' Bs 23 #[.slice (some ⟨b, off, none⟩) n c] ∧ Blk w' (Bs + 1) 3 #[.int .i64 z]) (by kernel_rfl) (by kernel_rfl) (by simp) ⟨hJd _ _ hJ, hb1.drew, hb2.drew⟩ ?_
      clear hJ hb1 hb2 e1 e2
      iterate 6
        refine Seq.next ?_ (Sure.val rfl (fun w' hS => ?_)) ?_
        rotate_left 1
        · have e1 : w'.cell? ⟨Bs, 0, none⟩ = some (.slice (some ⟨b, off, none⟩) n c) := hS.2.1.cell 0
          have e2 : w'.cell? ⟨Bs + 1, 0, none⟩ = some (.int .i64 z) := hS.2.2.cell 0
          clear hS
          go_simp
          rfl
        simp only [Act.put, List.setIfInBounds_toArray, List.set_cons_zero, List.set_cons_succ]
      have hmin : (if n - p < z then ((n - p : Nat) : Int) else (z : Int)) = ((plz z n k : Nat) : Int) := by unfold plz; rw [← HPK.out]; split <;> omega
      have hmin2 : min (z : Int) ((n - p : Nat) : Int) = ((plz z n k : Nat) : Int) := by unfold plz; rw [← HPK.out]; omega
      first | rw [hmin] | rw [hmin2]
      have hp1 : 0 < plz z n k ∧ plz z n k ≤ z ∧ p + plz z n k ≤ n := by unfold plz; rw [← HPK.out]; omega
      obtain ⟨e, he⟩ : ∃ e, e = plz z n k := ⟨_, rfl⟩
      rw [← he] at hp1 ⊢
      have HE := Lib.hid he
      clear he hmin hmin2
      refine Seq.last rfl fun w' hS => ?_
      obtain ⟨hJ, hb1, hb2⟩ := hS
      have e1 : w'.cell? ⟨Bs, 0, none⟩ = some (.slice (some ⟨b, off, none⟩) n c) := hb1.cell 0
      have e2 : w'.cell? ⟨Bs + 1, 0, none⟩ = some (.int .i64 z) := hb2.cell 0
      obtain ⟨fn, tmps, assign, body, hy, hR⟩ := hY ys ⟨k, by rw [← HPK.out]; exact hlt⟩ w' hJ (by
        have h := congrArg List.length hys
        simp at h
        rw [h]
        refine (Nat.lt_div_iff_mul_lt (by omega)).2 ?_
        rw [Nat.mul_comm, ← HPK.out]
        omega)
      simp only [pvz, ← HE.out, ← HPK.out] at hy
      obtain ⟨hp1, hp2, hp3⟩ := hp1
      have j1 : (p : Int) + (e : Int) ≤ (c : Int) := by omega
      have j2 : (p : Int) ≤ (p : Int) + (e : Int) := by omega
      have j3 : ((p : Int) + (e : Int)).toNat = p + e := by omega
      have j4 : 0 ≤ (p : Int) + (e : Int) := by omega
      go_simp
      gi_wp2
      refine hR.mono ?_
      rintro e' W3 (⟨rfl, hJ3, hk3⟩ | ⟨rfl, hJx3⟩)
      · have hb3 := hk3.blk hb1
        have hb4 := hk3.blk1 hb2
        have e4 : W3.cell? ⟨Bs + 1, 0, none⟩ = some (.int .i64 z) := hb4.cell 0
        clear e1 e2 hy hR hb1 hb2
        have hys' : (ys ++ [(⟨k, by rw [← HPK.out]; exact hlt⟩ : Ptz z n)]).map (·.1) = List.range (k + 1) := by rw [List.map_append, hys, List.range_succ]; rfl
        gi_wp2
        go_roundw
        case rel => exact ⟨p + z, k + 1, _, HPK1.out.symm, by omega, by simp, hys', hJ3, hb3, hb4⟩
        case measure => simp [intOf]; omega
      · gi_wp2
        refine bodyPost_ret (results_none rfl _ _ _) rfl ?_
        refine ⟨⟨_, rfl⟩, .inr ⟨_, ?_, hJx3⟩⟩
        have hyl := congrArg List.length hys
        rw [List.length_map, List.length_range] at hyl
        rw [List.map_append, hys, List.length_append, hyl, List.length_singleton, List.range_succ]
        rfl
    · have i1 : ¬ ((p : Nat) : Int) < (n : Int) := by omega
      have hkk : k = (n + (z - 1)) / z := by
        refine Nat.le_antisymm ?_ ?_
        · refine (Nat.le_div_iff_mul_le (by omega)).2 ?_
          rw [Nat.mul_comm, ← HPK.out]; omega
        · refine Nat.le_of_lt_succ ((Nat.div_lt_iff_lt_mul (by omega)).2 ?_)
          rw [Nat.mul_comm, HPK1.out]; omega
      gi_wp2
      go_end0
      exact ⟨⟨_, rfl⟩, .inl ⟨_, by rw [← hkk]; exact hys, hJ⟩⟩

/-- What slices.Chunk answers has its contract: all parts, in order; a body that goes on keeps the two blocks. -/
theorem chkz_stops (m Bs b off n c z : Nat) (A : Option Addr) (w : World) (hz : 1 ≤ z) (hz2 : z ≤ 140737488355328) (hm : 1 ≤ m) (hA : 0 < n → A = some ⟨b, off, none⟩) (hnc : n ≤ c) (hc : n ≤ 140737488355328)
    (h1 : Blk w Bs 23 #[.slice A n c]) (h2 : Blk w (Bs + 1) 3 #[.int .i64 z]) :
    SeqStopsK Fence.wide m Tryz.prog 28 #[.pointer (some ⟨Bs, 0, none⟩), .pointer (some ⟨Bs + 1, 0, none⟩)] (fun x : Ptz z n => #[pvz z b off n x.1]) (Kpz Bs)
      (fun ys => ys.map (·.1) = List.range ((n + (z - 1)) / z)) (fun ys => ys.map (·.1) = List.range ys.length) ((n + (z - 1)) / z) w := fun l J Jx W hW hJ _ hY h0 =>
  chkz_in m l Bs b off n c z A hz hz2 hm hA hnc hc J Jx (fun s w h => hJ s w _ none h (drew_grz w) (fun _ h => by cases h)) hY W (h1.below hW h1.lt) (h2.below hW h2.lt) h0
end Go.Proofs.YtfloiekaiiapnaaGreatDoor

namespace Go.Proofs.YtfloiekaiiapnaaGreatDoor
open Go Go.RowKit

section
variable {P : Program} {w0 w w' : World} {R : List Nat} {Hs : List Hl} {E : Hl}
/-- A round that goes on, or returns. -/
def RetOr (K Kr : World → Prop) : Exit → Act → World → Prop
  | .normal, _, w => K w
  | .ret, _, w => Kr w
  | _, _, _ => False
theorem OwnT.allCells {α : Type} {C : Cod α} {e : TypeId} {v : Value} {l : List α} (h : OwnT C e v l E) : AllCells E := by
  rcases h.cases with ⟨_, _, rfl⟩ | ⟨g', cap, cur, _, rfl, _⟩
  · intro x hx; cases hx
  · intro x hx
    obtain rfl := List.mem_singleton.1 hx
    rfl
theorem AllCells.app {A B : Hl} (h : AllCells A) (k : AllCells B) : AllCells (A ++ B) := fun x hx => (List.mem_append.1 hx).elim (h x) (k x)
theorem AllCells.bl {g : Nat} {t : TypeId} {cs : Array Value} : AllCells [Go.Proofs.YtfloiekaiiapnaaGreatDoor.bl g t cs] := fun x hx => by
  obtain rfl := List.mem_singleton.1 hx
  rfl
theorem cxRetI {f : Nat} {Q : Exit → Act → World → Prop} {n : Sz} {l : Slots} (h : QX Q .ret n l w) : CXi f P Q .ret n l w := fun a hF => wpIn_ret (h a hF)
theorem cxRangeR {α : Type} {Q : Exit → Act → World → Prop} {n : Nat} {l : Slots} {k p d ida : Nat} {body : Code} {o : Oper} {gf : Nat} {lb : Array Value} {encs : α → Value} {Kp : World → World → Prop} {S Sp : List α → Prop} {N : Nat} {E0 : Hl}
    (I Ix : List α → Hl → Prop) (j : Nat) (hH : HH w0 R (Hs ++ [E0]) w) (hj : l[j]? = some (k, .func (.func gf) #[] lb)) (eg : ∀ args w, (callFunc gf args).run P w = .ok (.enter gf args) w)
    (hseq : SeqStopsK Fence.wide 2 P gf lb (fun x => #[encs x]) Kp S Sp N w) (hKt : ∀ {A B C : World}, Kp A B → Kp B C → Kp A C)
    (hKb : ∀ (W : World) (l : Nat) (o o' : Obj), w.heap.size ≤ l → W.heap[l]? = some o → o.isCells = false → o.isWalk = false → Kp W (W.putObj l o'))
    (hKp : ∀ W W', Has Hs.flatten W → Has Hs.flatten W' → Kp W W') (hcs : AllCells Hs.flatten) (hIc : ∀ pre E, I pre E → AllCells E) (hXc : ∀ pre E, Ix pre E → AllCells E) (h0 : I [] E0)
    (hpl : keysB p l = true) (hpn : p < n) (ho : ∀ (a : Act) W v, a.eval (.tmp p) = v → (execOp a.eval o).run P W = .ok (.value v) W) (hod : o.dst = some d) (hog : ∀ a : Act, Region.wanted o (yielded [o].toArray a.tmps) = true) (hnd : noDefer o = true) (hdl : keysB d l = true) (hdn : d < n)
    (hbody : ∀ pre x E W lp, I pre E → pre.length < N → HH w0 R (Hs ++ [E]) W → ∀ a, Fr ⟨n, []⟩ ((d, encs x) :: l) a → body.wpIn (Fence.wide.inRound lp) 1 P (RetOr (fun W' => ∃ E', I (pre ++ [x]) E' ∧ Hold W (bks E) E' W') fun W' => ∃ E', Ix (pre ++ [x]) E' ∧ Hold W (bks E) E' W') a W)
    (hdone : ∀ xs E D W, S xs → I xs E → HH w0 R (Hs ++ [E] ++ [[(D, .deferred (some []))]]) W → QX Q .normal ⟨n, [{ target := .collected D, args := #[] }]⟩ l W)
    (hret : ∀ xs E D W, Sp xs → Ix xs E → HH w0 R (Hs ++ [E] ++ [[(D, .deferred (some []))]]) W → QX Q .ret ⟨n, [{ target := .collected D, args := #[] }]⟩ l W) :
    CX P Q (.rangeFunc (.tmp k) #[p] (.region ida [o].toArray false) body) ⟨n, []⟩ l w := by
  intro a hF
  have hsz : w0.heap.size ≤ w.heap.size := Hold.size hH
  have hall : ∀ {pre E}, I pre E → AllCells (Hs ++ [E]).flatten := fun hi x hx => by
    rw [List.flatten_append] at hx
    rcases List.mem_append.1 hx with hx | hx
    · exact hcs x hx
    · exact hIc _ _ hi x (by simpa using hx)
  have hallx : ∀ {pre E}, Ix pre E → AllCells (Hs ++ [E]).flatten := fun hi x hx => by
    rw [List.flatten_append] at hx
    rcases List.mem_append.1 hx with hx | hx
    · exact hcs x hx
    · exact hXc _ _ hi x (by simpa using hx)
  have hhas : ∀ {E W}, HH w0 R (Hs ++ [E]) W → Has Hs.flatten W := fun hh => (HH.hasAll hh).of (flatten_sub (List.sublist_append_left _ _))
  refine (wpIn_wide (n := 3)).1 ?_
  refine wpIn_rangeFunc_ownH (α := α) (w0 := w) rfl (by omega) (gf := gf) (lb := lb) (hF.ev j hj) trivial eg hseq hKt hKb (Below.refl _ _) (fun _ => rfl)
    (fun pre W => ∃ E, I pre E ∧ HH w0 R (Hs ++ [E]) W) (fun c pre W => c = .ret ∧ ∃ E, Ix pre E ∧ HH w0 R (Hs ++ [E]) W)
    (fun s A B row ⟨E, hi, hh⟩ hg hr => ⟨E, hi, Hold.grown hh hg fun r e => by
      obtain ⟨h1, o, ho, hc⟩ := hr r e
      exact ⟨Nat.le_trans hsz h1, not_cells_ne hh (hall hi) ho hc⟩⟩)
    (fun c s A B row ⟨hc0, E, hi, hh⟩ hg hr => ⟨hc0, E, hi, Hold.grown hh hg fun r e => by
      obtain ⟨h1, o, ho, hc⟩ := hr r e
      exact ⟨Nat.le_trans hsz h1, not_cells_ne hh (hallx hi) ho hc⟩⟩) ⟨E0, h0, hH⟩ (fun x a' _ => Fr ⟨n, []⟩ ((d, encs x) :: l) a') (fun x a' => ownFrom_pure _ _) ?assign ?body ?done ?stop
  case assign =>
    rintro lp pre x W K ⟨E, hi, hh⟩ hK
    have hF1 : Fr ⟨n, []⟩ ((p, encs x) :: l) (a.put (some p) (encs x)) := hF.put _ (kA hpl) hpn
    have e1 : ({ tmps := (#[p].zip #[encs x]).foldl (fun t (p, v) => t.setIfInBounds p v) a.tmps, defers := [] } : Act) = a.put (some p) (encs x) := by
      have := hF.defers
      cases a
      simp only at this
      subst this
      simp [Act.put]
    rw [e1]
    refine region_in (by simpa using hnd) fun K' hK' => ?_
    refine stepV hF1 hod (hog _) (ho _ _ _ (hF1.ev 0 rfl)) (l' := l) ⟨List.sublist_cons_self _ _, hdl⟩ hdn fun a' hF2 => ?_
    exact hK' _ _ (hK _ _ (KeepsFrom.refl _ _) (hKp _ _ (hhas hh) (hhas hh)) ⟨E, hi, hh⟩ hF2)
  case body =>
    rintro lp pre x a' W hlp hrec ⟨E, hi, hh⟩ hax hlen
    refine wpIn_mono (hbody pre x E W lp hi hlen hh a' hax) ?_
    rintro e a3 W3 hp
    cases e with
    | normal =>
      obtain ⟨E', hi', hE⟩ := hp
      have hh' : HH w0 R (Hs ++ [E']) W3 := by
        have h2 := hh.turn Hs.length (by simp) hE
        simpa using h2
      refine ⟨⟨hE.size, fun k o hk hko hc => ?_⟩, hKp _ _ (hhas hh) (hhas hh'), E', hi', hh'⟩
      refine (hE.frame k (Array.getElem?_eq_some_iff.1 hko).1 fun hm => ?_).trans hko
      obtain ⟨y, hy, e⟩ := List.mem_map.1 hm
      exact not_cells_ne (L := E) (Has.hold (hh.has Hs.length (by simp))) (hIc _ _ hi) hko hc y hy e
    | ret =>
      obtain ⟨E', hi', hE⟩ := hp
      have hh' : HH w0 R (Hs ++ [E']) W3 := by
        have h2 := hh.turn Hs.length (by simp) hE
        simpa using h2
      refine ⟨⟨hE.size, fun k o hk hko hc => ?_⟩, rfl, E', hi', hh'⟩
      refine (hE.frame k (Array.getElem?_eq_some_iff.1 hko).1 fun hm => ?_).trans hko
      obtain ⟨y, hy, e⟩ := List.mem_map.1 hm
      exact not_cells_ne (L := E) (Has.hold (hh.has Hs.length (by simp))) (hIc _ _ hi) hko hc y hy e
    | _ => exact hp.elim
  case done =>
    rintro D xs W hD hS ⟨E, hi, hh⟩ hK
    refine hdone xs E D W hS hi ?_ _ ⟨hF.size, by simp [hF.defers], hF.get⟩
    have h2 := Hold.more hh hK (not_cells_ne hh (hall hi) hK rfl) (Nat.le_trans hsz hD)
    unfold HH
    rw [List.flatten_append]
    simpa using h2
  case stop =>
    rintro D c pre W hD hS ⟨rfl, E, hi, hh⟩ hK
    refine wpIn_ret (hret pre E D W hS hi ?_ _ ⟨hF.size, by simp [hF.defers], hF.get⟩)
    have h2 := Hold.more hh hK (not_cells_ne hh (hallx hi) hK rfl) (Nat.le_trans hsz hD)
    unfold HH
    rw [List.flatten_append]
    simpa using h2
end
section
variable {P : Program} {w w0 : World} {R : List Nat} {Hs : List Hl} {fn : Func} {RR : Ending → World → Prop} {l : Slots} {n D c : Nat}
theorem loadVar1 {ty : TypeId} {g : Nat} {v : Value} {t : TypeId} (hdd : (P.underlying ty).map (·.isRow) = some false) (hb : w.heap[g]? = some (.cells #[v] t (0, 0))) : (loadVar ty ⟨g, 0, none⟩).run P w = .ok v w := by
  have hc : w.cell? ⟨g, 0, none⟩ = some v := by rw [cell_of_row w g 0 #[v] t (0, 0) hb]; rfl
  cases hu : P.underlying ty with
  | none => rw [hu] at hdd; cases hdd
  | some d =>
    rw [hu] at hdd
    have hag : (isAgg ty).run P w = .ok false w := by
      cases d <;> first | (cases hdd; done) | simp [isAgg, run_underlying hu]
    simp [loadVar, hag, run_load, hc]
theorem results_cc {p p' : Tmp} {g g' : Nat} {v v' : Value} {t t' ty ty' : TypeId} {tmps : Array Value} (hf : fn.results = #[.cell p ty, .cell p' ty']) (hp : tmps.getD p undef = .pointer (some ⟨g, 0, none⟩)) (hp' : tmps.getD p' undef = .pointer (some ⟨g', 0, none⟩)) (hb : w.heap[g]? = some (.cells #[v] t (0, 0))) (hb' : w.heap[g']? = some (.cells #[v'] t' (0, 0))) (hdd : (P.underlying ty).map (·.isRow) = some false) (hdd' : (P.underlying ty').map (·.isRow) = some false) :
    (results fn tmps).run P w = .ok (.tuple #[v, v']) w := by
  have hl := loadVar1 hdd hb
  have hl' := loadVar1 hdd' hb'
  simp only [Array.getD_eq_getD_getElem?] at hp hp'
  simp [results, hf, hp, hp', asAddr, hl, hl']
/-- Two results that are cells of one value; ahead of a range, and behind it. -/
theorem qxMRet1CC {p p' : Tmp} {g g' : Nat} {v v' : Value} {t t' ty ty' : TypeId} (i j : Nat) (hb : w.heap[g]? = some (.cells #[v] t (0, 0))) (hb' : w.heap[g']? = some (.cells #[v'] t' (0, 0))) (hf : fn.results = #[.cell p ty, .cell p' ty']) (hi : l[i]? = some (p, .pointer (some ⟨g, 0, none⟩))) (hj : l[j]? = some (p', .pointer (some ⟨g', 0, none⟩))) (hdd : (P.underlying ty).map (·.isRow) = some false) (hdd' : (P.underlying ty').map (·.isRow) = some false) (hR : RR (.returned (.tuple #[v, v'])) w) : QX (bodyPostM Fence.wide 3 P fn RR) .ret ⟨n, []⟩ l w := fun a hF => by
  show LeavesInM _ _ _ _ _ _ a.defers _ _
  rw [hF.defers]
  exact ⟨_, results_cc hf (hF.at i hi) (hF.at j hj) hb hb' hdd hdd', hR⟩
theorem qxDRet1CC {p p' : Tmp} {g g' : Nat} {v v' : Value} {t t' ty ty' : TypeId} (i j c k k' : Nat) (hH : HH w0 R Hs w) (hc : Hs[c]? = some [(D, .deferred (some []))]) (hb : (Hs.set c [(D, .deferred none)])[k]? = some [(g, .cells #[v] t (0, 0))]) (hb' : (Hs.set c [(D, .deferred none)])[k']? = some [(g', .cells #[v'] t' (0, 0))]) (hf : fn.results = #[.cell p ty, .cell p' ty']) (hi : l[i]? = some (p, .pointer (some ⟨g, 0, none⟩))) (hj : l[j]? = some (p', .pointer (some ⟨g', 0, none⟩))) (hdd : (P.underlying ty).map (·.isRow) = some false) (hdd' : (P.underlying ty').map (·.isRow) = some false)
    (hR : ∀ w', HH w0 R (Hs.set c [(D, .deferred none)]) w' → RR (.returned (.tuple #[v, v'])) w') : QX (bodyPostM Fence.wide 3 P fn RR) .ret ⟨n, [{ target := .collected D, args := #[] }]⟩ l w := fun a hF => by
  have hK := hH.blk c hc
  have hT := turn_dfr hH hc
  show LeavesInM _ _ _ _ _ _ a.defers _ _
  rw [hF.defers]
  refine ⟨by simp, .inl ⟨_, _, rfl, run_takeDeferred hK, ?_⟩⟩
  exact ⟨_, results_cc hf (hF.at i hi) (hF.at j hj) (hT.blk k hb) (hT.blk k' hb') hdd hdd', hR _ hT⟩
end
end Go.Proofs.YtfloiekaiiapnaaGreatDoor

namespace Go.Proofs.YtfloiekaiiapnaaGreatDoor
open Go Go.RowKit
set_option maxRecDepth 100000

theorem chkz_d (z : Nat) (hz : 1 ≤ z) (A : Option Addr) (n c : Nat) : Does Tryz.prog 13 #[.slice A n c, .int .i64 ((z : Nat) : Int)] [] (fun _ => True) (fun v E' => ∃ B, v = .func (.func 28) #[] #[.pointer (some ⟨B, 0, none⟩), .pointer (some ⟨B + 1, 0, none⟩)] ∧ E' = [bl B 23 #[.slice A n c], bl (B + 1) 3 #[.int .i64 ((z : Nat) : Int)]]) := fun w _ _ =>
  (chkz_c z hz A n c w).mono fun e w' ⟨h1, h2⟩ => ⟨_, _, h1, ⟨w.heap.size, rfl, rfl⟩, by
    subst h2
    have h3 := ((Hold.init w).new (.cells #[.slice A n c] 23)).new (.cells #[.int .i64 ((z : Nat) : Int)] 3)
    rw [World.size_alloc] at h3
    exact h3⟩
theorem partz_vu {w : World} {A : Option Addr} {c b off i z n : Nat} {l : List UInt8} (h : Vu cByte w A n c l) (hA : 0 < n → A = some ⟨b, off, none⟩) (hi : z * i < n) :
    Vu cByte w (some ⟨b, off + z * i, none⟩) (plz z n i) (plz z n i) ((l.drop (z * i)).take z) := by
  obtain rfl := h.len
  have hl : ((l.drop (z * i)).take z).length = plz z l.length i := by rw [List.length_take, List.length_drop]; rfl
  refine ⟨hl, Nat.le_refl _, fun h => (by cases h), fun _ => ⟨b, _, rfl, ?_⟩⟩
  obtain ⟨b', off', e, hL⟩ := h.open (by omega)
  rw [hA (by omega)] at e
  cases e
  intro j x hx
  have h1 : l[z * i + j]? = some x := by
    rw [List.getElem?_take] at hx
    split at hx
    · rw [List.getElem?_drop] at hx; exact hx
    · cases hx
  have h2 := hL _ x h1
  have e : off + z * i + j * cByte.sz = off + (z * i + j) * cByte.sz := by show off + z * i + j * 1 = off + (z * i + j) * 1; omega
  rw [e]
  exact h2
theorem map_snoc_range {α : Type} {f : α → Nat} {pre : List α} {x : α} (h : (pre ++ [x]).map f = List.range (pre ++ [x]).length) : pre.map f = List.range pre.length ∧ f x = pre.length := by
  rw [List.map_append, List.length_append, List.length_singleton, List.range_succ] at h
  have h1 := List.append_inj h (by rw [List.length_map, List.length_range])
  exact ⟨h1.1, by simpa using h1.2⟩
theorem plz_le {z n i : Nat} : plz z n i ≤ z := Nat.min_le_left _ _
end Go.Proofs.YtfloiekaiiapnaaGreatDoor

namespace Go.Proofs.YtfloiekaiiapnaaGreatDoor
open Go Go.RowKit
set_option maxRecDepth 100000

theorem Off.part {A : Option Addr} {n m : Nat} {R : List Nat} (h : Off A n R) (hn : 0 < n) : Off A m R := fun b off e _ => h b off e hn
theorem OwnT.cutOff {A : Option Addr} {n m c k sz : Nat} {R : List Nat} {e : TypeId} {l : List UInt8} {F : Hl} (hO : OwnT cByte e (.slice A n c) l F) (h : Off A n R) (hn : 0 < n) : Off (cutA A c k sz) m R := fun b off e _ => by
  rcases hO.cases with ⟨e1, _, _⟩ | ⟨g, cap, cur, e1, _, _⟩
  · injection e1 with e1 e2 e3
    omega
  · injection e1 with e1 e2 e3
    subst e1
    unfold cutA at e
    split at e
    · exact h b off e hn
    · rw [Option.map_some, Addr.add_mid] at e
      injection e with e
      injection e with e1 e2
      subst e1
      exact h g 0 rfl hn

theorem seal_next {K b I H L p : List UInt8} {z k m : Nat} {pre : List (Ptz z p.length)} {x : Ptz z p.length} (hk : k = pre.length) (hT : pre.map (·.1) = List.range k → L = H ++ spW K b I z p k ∧ m = min (z * k) p.length) (hx : z * x.1 < p.length) (h : (pre ++ [x]).map (·.1) = List.range (pre ++ [x]).length) :
    L ++ ocS K (spN b k) I ((p.drop (z * x.1)).take z) = H ++ spW K b I z p (k + 1) ∧ m + plz z p.length x.1 = min (z * (k + 1)) p.length := by
  obtain ⟨h1, h2⟩ := map_snoc_range h
  obtain ⟨e1, e2⟩ := hT (by rw [hk]; exact h1)
  replace h2 : x.1 = k := h2.trans hk.symm
  rw [h2] at hx ⊢
  refine ⟨by rw [e1, List.append_assoc]; rfl, ?_⟩
  rw [e2]
  unfold plz
  rw [Nat.mul_add, Nat.mul_one]
  omega

set_option maxHeartbeats 8000000 in
theorem seals_s (s t : Nat → UInt8) (c : Nat) (hc : c ≤ 10) (A : Option Addr) (y : Nat) (p : List UInt8) (hp : p.length ≤ 10000) : Does Tryz.prog 7 #[((cArr 32).val s), ((cArr 32).val t), (.int .i64 (((c) : Nat) : Int)), (.slice A p.length y)] [] (fun w => w.heap[1]? = some (.cells ((cWs 64).enc K32) 125 (0, 0)) ∧ w.heap[0]? = some (.cells ((cWs 8).enc H32) 115 (0, 0)) ∧ w.heap[2]? = some (.cells ((cArr 256).enc boxF) 105 (0, 0)) ∧ w.heap[4]? = some (.cells ((cArr 64).enc dbF) 104 (0, 0)) ∧ Vu cByte w A p.length y p) (fun v E' => ∃ b, v = .tuple #[b, .int .i64 0] ∧ OwnT cByte 5 b (spBody (lst 32 s) (lst 32 t) c p) E') := by
  refine does_ofM (fn := Tryz.f7) Tryz.func7 rfl Tryz.ntmps7 (Nat.le_of_ble_eq_true rfl) rfl ?_
  intro w0 hH hR
  replace hH : HH w0 [] [] w0 := hH.only [false]
  have hcp := hR.2.2.2.2.cap
  have hzz := z_le hc
  obtain ⟨z, hz⟩ : ∃ z, z = 64 * 2 ^ c := ⟨_, rfl⟩
  rw [← hz] at hzz
  obtain ⟨hz1, hz2⟩ := hzz
  have hcn := spC_le (z := z) (n := p.length) (by omega)
  refine zr ?_
  refine zm hH (.bx (cArr 32) s) trivial 1 ?_
  clear hH
  rintro _ _ w ⟨g1, rfl, rfl⟩ hH
  refine zm hH (.bx (cArr 32) t) trivial 2 ?_
  clear hH
  rintro _ _ w ⟨g2, rfl, rfl⟩ hH
  refine zv .mv 0 ?_
  refine zv .mv 1 ?_
  refine zn ?_
  refine cxSeq ?_
  refine zr ?_
  refine zv .mv 1 ?_
  refine zv (v := (.bool false)) (fun _ _ hF => opLss rfl (hF.ev 0 rfl) rfl (decide_eq_false (by omega))) 1 ?_
  refine zv .mv 1 ?_
  refine pxV (v := (.int .i64 (((c) : Nat) : Int))) (fun _ _ hF => opMove rfl (hF.ev 3 rfl)) rfl (gOn 0 rfl rfl rfl (by decide)) (kA rfl) (by decide) ?_
  refine pxV (v := (.bool false)) (fun _ _ hF => opGtr rfl (hF.ev 0 rfl) rfl (decide_eq_false (by omega))) rfl (gOn 1 rfl rfl rfl (by decide)) (kM [false, true, true, true, true, true] rfl rfl) (by decide) ?_
  refine zv (v := (.bool false)) (fun _ _ hF => opPickF rfl (hF.ev 1 rfl) (hF.ev 0 rfl)) 3 ?_
  refine zn ?_
  refine zF ?_
  refine cxSkip ?_
  refine qxThen ?_
  refine cxSeq ?_
  refine zr ?_
  refine zv .mv 1 ?_
  refine zv .len 1 ?_
  refine zv (v := (.bool false)) (fun _ _ hF => opGtr rfl (hF.ev 0 rfl) rfl (decide_eq_false (by omega))) 1 ?_
  refine zn ?_
  refine zF ?_
  refine cxSkip ?_
  refine qxThen ?_
  refine zr ?_
  refine zv .mv 9 ?_
  refine zv .cb 1 ?_
  refine zs (hH.q 1 rfl) (.ld (cArr 32) t (fun _ hS => (holds_blk0 hS))) 2 ?_
  refine zv (v := (cHd.val ((UInt8.ofNat c), t))) (fun _ _ hF => opBuildP (cells := cHd.enc ((UInt8.ofNat c), t)) rfl (EvP.cons (v := (.int .u8 ((((UInt8.ofNat c).toNat) : Nat) : Int))) (hF.ev 1 rfl) (EvP.cons (v := ((cArr 32).val t)) (hF.ev 0 rfl) EvP.nil)) (built_pair (x := ((UInt8.ofNat c), t)) (by kernel_rfl) rfl rfl) _) 3 ?_
  refine zm hH (.al cHd (0, fun _ => 0)) trivial 0 ?_
  clear hH
  rintro _ _ w ⟨g3, rfl, rfl⟩ hH
  refine ze0 2 hH rfl (.sw cHd (0, fun _ => 0) ((UInt8.ofNat c), t)) trivial ?_
  clear hH
  rintro _ _ w rfl hH
  refine zn ?_
  obtain ⟨x0, hx0⟩ : ∃ q, q = UInt8.ofNat c := ⟨_, rfl⟩
  rw [← hx0] at hH
  have hxc : x0.toNat = c := by rw [hx0, UInt8.toNat_ofNat', Nat.mod_eq_of_lt (by omega)]
  have hzv : Value.int .i64 ((64 * 2 ^ x0.toNat : Nat) : Int) = .int .i64 ((z : Nat) : Int) := by rw [hxc, ← hz]
  refine zr ?_
  refine zs (hH.q 0 rfl) (.ld (cArr 32) s (fun _ hS => (holds_blk0 hS))) 6 ?_
  refine zs (hH.q 2 rfl) (.ld cHd (x0, t) (fun _ hS => (holds_blk0 hS))) 0 ?_
  refine zm hH (.call Tryz.func11 ((begin_s s x0 t))) (⟨(hH.oldBlk hR.1 (by simp)), (hH.oldBlk hR.2.1 (by simp))⟩) 3 ?_
  clear hH
  rintro _ _ w ⟨gr, Bk, dk, Ai, yi, Ei, Ek, rfl, rfl, hK, hI⟩ hH
  rw [hxc] at hK hI
  replace hH : HH w0 [] [[bl g1 22 ((cArr 32).enc s)], [bl g2 22 ((cArr 32).enc t)], [bl g3 34 (cHd.enc (x0, t))], Ei, Ek, [bl gr 55 (cRn.enc ((Bk, 32, dk), (cutA Bk dk 32 1, 7, dk - 32), (Ai, 5, yi), 0, 0))]] w := hH.cast (by simp)
  obtain ⟨Kb, hKb⟩ : ∃ q, q = spD (lst 32 s) (lst 32 t) c := ⟨_, rfl⟩
  obtain ⟨I, hIn⟩ : ∃ q, q = spI c := ⟨_, rfl⟩
  rw [← hKb] at hK
  rw [← hIn] at hI
  have hKl : Kb.length = 39 := by rw [hKb]; exact spD_len _ _ _
  have hIl : I.length = 5 := by rw [hIn]; rfl
  have hdk := hK.capLe
  refine zm hH (fun _ hF => smAlloc (z := (.pointer none)) rfl (by kernel_rfl) rfl) trivial 0 ?_
  clear hH
  rintro _ _ w ⟨g4, rfl, rfl⟩ hH
  refine ze0 6 hH rfl .sc trivial ?_
  clear hH
  rintro _ _ w rfl hH
  refine zn ?_
  refine zr ?_
  refine zs (hH.q 2 rfl) (.ld cHd (x0, t) (fun _ hS => (holds_blk0 hS))) 2 ?_
  refine zm hH (.call Tryz.func12 ((hbytes_c x0 t))) trivial 1 ?_
  clear hH
  rintro v9 E5 w hO6 hH
  obtain ⟨A7, c8, rfl⟩ := hO6.slice
  refine zm hH (fun _ hF => smAlloc (z := (.slice none 0 0)) rfl (by kernel_rfl) rfl) trivial 0 ?_
  clear hH
  rintro _ _ w ⟨g11, rfl, rfl⟩ hH
  refine ze0 8 hH rfl .sc trivial ?_
  clear hH
  rintro _ _ w rfl hH
  refine zn ?_
  refine cxSeq ?_
  refine zr ?_
  refine zv .mv 18 ?_
  refine zs (hH.q 2 rfl) (.ld cHd (x0, t) (fun _ hS => (holds_blk0 hS))) 8 ?_
  refine zc Tryz.func14 ((chunk_c x0 t (by omega)).as hzv) trivial hH 1 ?_
  clear hH
  intro w hH
  refine zm hH (.call Tryz.func13 (chkz_d z (by omega) A p.length y)) trivial 3 ?_
  clear hH
  rintro _ _ w ⟨B_, rfl, rfl⟩ hH
  refine zn ?_
  refine cxBlock ?_
  obtain ⟨b0, off, hA⟩ : ∃ b off, 0 < p.length → A = some ⟨b, off, none⟩ := by
    by_cases h : 0 < p.length
    · obtain ⟨b, off, h1, _⟩ := hR.2.2.2.2.open h; exact ⟨b, off, fun _ => h1⟩
    · exact ⟨0, 0, fun h' => absurd h' h⟩
  have hH1 : HH w0 [] [[bl B_ 23 #[.slice A p.length y], bl (B_ + 1) 3 #[.int .i64 ((z : Nat) : Int)]], [bl g11 23 #[(.slice A7 (([2, 9, 2, x0] ++ lst 32 t).length) c8)]], [bl g4 35 #[(.pointer (some ⟨gr, 0, none⟩))]], Ei, Ek, [bl gr 55 (cRn.enc ((Bk, 32, dk), (cutA Bk dk 32 1, 7, dk - 32), (Ai, 5, yi), 0, 0))], E5] w := HH.sel hH [9, 8, 6, 3, 4, 5, 7] rfl (by decide)
  have hH2 : HH w0 [] ([[bl B_ 23 #[.slice A p.length y], bl (B_ + 1) 3 #[.int .i64 ((z : Nat) : Int)]]] ++ [([bl g11 23 #[(.slice A7 (([2, 9, 2, x0] ++ lst 32 t).length) c8)]]) ++ (([bl g4 35 #[(.pointer (some ⟨gr, 0, none⟩))]]) ++ (Ei ++ (Ek ++ (([bl gr 55 (cRn.enc ((Bk, 32, dk), (cutA Bk dk 32 1, 7, dk - 32), (Ai, 5, yi), 0, 0))]) ++ (E5)))))]) w := hH1.cast (by simp)
  clear hH1
  have hcB1 : Blk w B_ 23 #[.slice A p.length y] := (hH2.has 0 rfl).blk (bl B_ 23 #[.slice A p.length y]) (by simp)
  have hcB2 : Blk w (B_ + 1) 3 #[.int .i64 ((z : Nat) : Int)] := (hH2.has 0 rfl).blk (bl (B_ + 1) 3 #[.int .i64 ((z : Nat) : Int)]) (by simp)
  have hB1 := hcB2.lt
  clear hH
  refine cxRangeR (α := Ptz z p.length) (S := fun ys => ys.map (·.1) = List.range ((p.length + (z - 1)) / z)) (Sp := fun ys => ys.map (·.1) = List.range ys.length) (N := ((p.length + (z - 1)) / z)) (Kp := Kpz B_) (encs := fun x => pvz z b0 off p.length x.1) (fun (pre : List (Ptz z p.length)) E => ∃ (A1 : Option Addr) (c1 : Nat) (L : List UInt8) (E1 : Hl) (k m : Nat), E = ([bl g11 23 #[(.slice A1 L.length c1)]]) ++ (([bl g4 35 #[(.pointer (some ⟨gr, 0, none⟩))]]) ++ (Ei ++ (Ek ++ (([bl gr 55 (cRn.enc ((Bk, 32, dk), (cutA Bk dk 32 1, 7, dk - 32), (Ai, 5, yi), k, m))]) ++ (E1))))) ∧ OwnT cByte 5 (.slice A1 L.length c1) L E1 ∧ k = pre.length ∧ L.length ≤ 36 + 65552 * k ∧ m ≤ 65536 * k ∧ (pre.map (·.1) = List.range k → L = ([2, 9, 2, x0] ++ lst 32 t) ++ spW (Kb.take 32) (Kb.drop 32) I z p k ∧ m = min (z * k) p.length))
    (fun _ _ => False) 0 hH2 rfl (enters_of Tryz.func28 (by kernel_rfl) rfl) (chkz_stops 2 B_ b0 off p.length y z A w (by omega) (by omega) (by omega) hA hcp (by omega) hcB1 hcB2) (fun h k => h.trans k)
    (fun W l' o o' hl _ _ _ => ⟨World.putObj_heap_other (by omega), World.putObj_heap_other (by omega)⟩)
    (fun W W' h h' => ⟨(h'.blk (bl B_ 23 #[.slice A p.length y]) (by simp)).trans (h.blk (bl B_ 23 #[.slice A p.length y]) (by simp)).symm, (h'.blk (bl (B_ + 1) 3 #[.int .i64 ((z : Nat) : Int)]) (by simp)).trans (h.blk (bl (B_ + 1) 3 #[.int .i64 ((z : Nat) : Int)]) (by simp)).symm⟩)
    (fun x hx => by simp only [List.flatten_cons, List.flatten_nil, List.append_nil, List.mem_cons, List.not_mem_nil, or_false] at hx; rcases hx with rfl | rfl <;> rfl)
    (fun pre E ⟨A1, c1, L, E1, k, m, h, hO, _⟩ => by subst h; exact .app .bl (.app .bl (.app hI.allCells (.app hK.allCells (.app .bl hO.allCells))))) (fun _ _ h => h.elim)
    ⟨A7, c8, ([2, 9, 2, x0] ++ lst 32 t), E5, 0, 0, rfl, hO6, rfl, by simp only [List.length_append, List.length_cons, List.length_nil, lst_len]; omega, Nat.le_refl _, fun _ => ⟨by rw [spW, List.append_nil], by rw [Nat.mul_zero, Nat.zero_min]⟩⟩ rfl (by decide) (fun a W v h => opAssign rfl h) rfl (fun _ => rfl) rfl rfl (by decide) ?_ ?_ ?_
  rintro pre x E W lp ⟨A1, c1, L, E1, k, m, rfl, hO, hk, hLl, hm, hT⟩ hlen hH
  have hV := partz_vu (hH.vu hR.2.2.2.2 (by decide) (Off.nil _ _)) hA x.2
  have hoff : b0 ∉ bks (([bl g11 23 #[(.slice A1 L.length c1)]]) ++ (([bl g4 35 #[(.pointer (some ⟨gr, 0, none⟩))]]) ++ (Ei ++ (Ek ++ (([bl gr 55 (cRn.enc ((Bk, 32, dk), (cutA Bk dk 32 1, 7, dk - 32), (Ai, 5, yi), k, m))]) ++ (E1)))))) := hH.fresh 1 rfl (vu16_lt hR.2.2.2.2 hA (by have := x.2; omega))
  have hpl := plz_le (z := z) (n := p.length) (i := x.1)
  have hbx := hH.oldBlk hR.2.2.1 (by simp)
  have hbn := hH.freshR 1 rfl (blk_lt hR.2.2.1) (by simp)
  have hdb := hH.oldBlk hR.2.2.2.1 (by simp)
  have hdn := hH.freshR 1 rfl (blk_lt hR.2.2.2.1) (by simp)
  have hkN : k < 10000 := by rw [hk]; exact Nat.lt_of_lt_of_le hlen (Nat.le_trans hcn hp)
  have hple := hV.len
  replace hH : HH W (bks (([bl g11 23 #[(.slice A1 L.length c1)]]) ++ (([bl g4 35 #[(.pointer (some ⟨gr, 0, none⟩))]]) ++ (Ei ++ (Ek ++ (([bl gr 55 (cRn.enc ((Bk, 32, dk), (cutA Bk dk 32 1, 7, dk - 32), (Ai, 5, yi), k, m))]) ++ (E1))))))) [[bl g11 23 #[(.slice A1 L.length c1)]], [bl g4 35 #[(.pointer (some ⟨gr, 0, none⟩))]], Ei, Ek, [bl gr 55 (cRn.enc ((Bk, 32, dk), (cutA Bk dk 32 1, 7, dk - 32), (Ai, 5, yi), k, m))], E1] W := ((hH.has 1 rfl).start).cast (by simp)
  clear hH2 hcB1 hcB2 hB1
  obtain ⟨w0, rfl⟩ : ∃ u, u = W := ⟨_, rfl⟩
  show CXi lp _ _ _ ⟨46, []⟩ [(13, (.slice (some ⟨b0, off + z * x.1, none⟩) (plz z p.length x.1) (plz z p.length x.1))), (35, (.func (.func 28) #[] #[(.pointer (some ⟨B_, 0, none⟩)), (.pointer (some ⟨(B_ + 1), 0, none⟩))])), (12, (.pointer (some ⟨g11, 0, none⟩))), (11, (.pointer (some ⟨g4, 0, none⟩)))] _
  refine cxBlockI ?_
  refine cxRegXI ?_
  replace hH := hH.drew
  refine rld 0 (hH.q 0 rfl) .lc 2 ?_
  refine rld 1 (hH.q 1 rfl) .lc 8 ?_
  refine rv 2 .mv 4 ?_
  refine rx1k 3 ?_
  refine re 3 4 hH rfl (.call Tryz.func15 ((seal_s gr Bk dk (Kb.take 32) (cutA Bk dk 32 1) (dk - 32) (Kb.drop 32) Ai yi I k m (some ⟨b0, off + z * x.1, none⟩) (plz z p.length x.1) (plz z p.length x.1) ((p.drop (z * x.1)).take z) (by omega) (by omega) (by omega)))) (⟨(hH.oldBlk hbx hbn), (hH.oldBlk hdb hdn), ⟨((hK.vuAt (hH.has 3 rfl)).head (m := 32) (by omega)), (hH.off3 4 3 rfl rfl rfl hK).part (by decide)⟩, ⟨((hK.vuAt (hH.has 3 rfl)).from (k := 32) (by omega)), hK.cutOff (hH.off3 4 3 rfl rfl rfl hK) (by decide)⟩, ⟨(hI.vuAt (hH.has 2 rfl)), (hH.off3 4 2 rfl rfl rfl hI).part (by omega)⟩, (hH.vu hV (by decide) (fun _ _ e _ => by cases e; exact hoff)), (hH.off 4 rfl hV (by decide) (fun _ _ e _ => by cases e; exact hoff))⟩) 3 (pgo [] (.keep (.nil _ []))) ?_
  clear hH
  rintro _ _ w ⟨s_, Es, rfl, rfl, hS_⟩ hH
  replace hH : HH w0 (bks (([bl g11 23 #[(.slice A1 L.length c1)]]) ++ (([bl g4 35 #[(.pointer (some ⟨gr, 0, none⟩))]]) ++ (Ei ++ (Ek ++ (([bl gr 55 (cRn.enc ((Bk, 32, dk), (cutA Bk dk 32 1, 7, dk - 32), (Ai, 5, yi), k, m))]) ++ (E1))))))) [[bl g11 23 #[(.slice A1 L.length c1)]], [bl g4 35 #[(.pointer (some ⟨gr, 0, none⟩))]], Ei, Ek, [bl gr 55 (cRn.enc ((Bk, 32, dk), (cutA Bk dk 32 1, 7, dk - 32), (Ai, 5, yi), (k + 1), (m + (plz z p.length x.1))))], Es, E1] w := hH.cast (by simp)
  obtain ⟨As, cs, rfl⟩ := hS_.slice
  refine ⟨pcons (hH.blk 0 rfl) pnil, ?_⟩
  refine rx1k 4 ?_
  refine re 4 6 hH rfl (fun _ hF => smAppT (C := cByte) (l := L) (m := (ocS (Kb.take 32) (spN (Kb.drop 32) k) I ((p.drop (z * x.1)).take z))) (e := 5) (z := (.int .u8 0)) (by_ := 1) rfl (by kernel_rfl) (by kernel_rfl) rfl (ltb rfl) (hF.ev 1 rfl) hO (hF.ev 0 rfl) rfl hS_.nilA (by rw [ocS_len, hple]; unfold maxLen; omega) (by rw [ocS_len, hple]; omega)) (hS_.vuAt (hH.has 5 rfl)) 3 (pgo [] (.nil _ [])) ?_
  clear hH
  rintro v14 E15 w ⟨hO16, _⟩ hH
  replace hO16 : OwnT cByte 5 v14 (L ++ (ocS (Kb.take 32) (spN (Kb.drop 32) k) I ((p.drop (z * x.1)).take z))) E15 := hO16
  obtain ⟨A12, c13, rfl⟩ := hO16.slice
  refine ⟨pnil, ?_⟩
  refine rx1k 5 ?_
  refine re0 5 0 hH rfl .sc trivial (.nil _ []) ?_
  clear hH
  rintro _ _ w rfl hH
  refine ⟨pnil, ?_⟩
  refine rxEndI (by kernel_rfl) ?_
  refine qxInN ?_
  replace hH : HH w0 (bks (([bl g11 23 #[(.slice A1 L.length c1)]]) ++ (([bl g4 35 #[(.pointer (some ⟨gr, 0, none⟩))]]) ++ (Ei ++ (Ek ++ (([bl gr 55 (cRn.enc ((Bk, 32, dk), (cutA Bk dk 32 1, 7, dk - 32), (Ai, 5, yi), k, m))]) ++ (E1))))))) [[bl g11 23 #[(.slice A12 ((L ++ (ocS (Kb.take 32) (spN (Kb.drop 32) k) I ((p.drop (z * x.1)).take z))).length) c13)]], [bl g4 35 #[(.pointer (some ⟨gr, 0, none⟩))]], Ei, Ek, [bl gr 55 (cRn.enc ((Bk, 32, dk), (cutA Bk dk 32 1, 7, dk - 32), (Ai, 5, yi), (k + 1), (m + (plz z p.length x.1))))], E15] w := hH.only [true, true, true, true, true, false, true]
  exact fun _ _ => ⟨_, ⟨A12, c13, (L ++ (ocS (Kb.take 32) (spN (Kb.drop 32) k) I ((p.drop (z * x.1)).take z))), E15, (k + 1), (m + (plz z p.length x.1)), rfl, hO16, by rw [List.length_append, List.length_singleton, hk], by rw [List.length_append, ocS_len, hple]; omega, by omega, fun h => seal_next hk hT x.2 (by rw [List.length_append, List.length_singleton, ← hk]; exact h)⟩, by simpa [HH] using hH⟩
  rintro xs E D w hxs ⟨A1, c1, L, E1, k, m, rfl, hO, hk, hLl, hm, hT⟩ hH
  replace hH : HH w0 [] [[bl B_ 23 #[.slice A p.length y], bl (B_ + 1) 3 #[.int .i64 ((z : Nat) : Int)]], [bl g11 23 #[(.slice A1 L.length c1)]], [bl g4 35 #[(.pointer (some ⟨gr, 0, none⟩))]], Ei, Ek, [bl gr 55 (cRn.enc ((Bk, 32, dk), (cutA Bk dk 32 1, 7, dk - 32), (Ai, 5, yi), k, m))], E1, [(D, .deferred (some []))]] w := hH.cast (by simp)
  clear hH2 hcB1 hcB2 hB1
  have hkN : k = spC z p.length := by have h := congrArg List.length hxs; rw [List.length_map, List.length_range, ← hk] at h; exact h
  obtain ⟨hL, hm2⟩ := hT (by rw [hkN]; exact hxs)
  replace hm2 : m = p.length := by rw [hm2]; exact Nat.min_eq_right (Nat.le_of_not_lt fun h => by have := (spC_lt (i := k) (by omega)).2 h; omega)
  have hk2 : k ≤ 10000 := by rw [hkN]; exact Nat.le_trans hcn hp
  refine qxInN ?_
  refine qxThen ?_
  have hel := spE_len (Kb.take 32) (Kb.drop 32) I k m
  refine zx ?_
  replace hH := hH.drew
  refine rld 0 (hH.q 1 rfl) .lc 3 ?_
  refine rld 1 (hH.q 2 rfl) .lc 2 ?_
  refine rx1k 2 ?_
  refine rm 2 hH (.call Tryz.func16 ((end_s gr Bk dk (Kb.take 32) (cutA Bk dk 32 1) (dk - 32) (Kb.drop 32) Ai yi I k m))) (⟨(hH.blk 5 rfl), (hH.oldBlk hR.2.2.1 (by simp)), (hH.oldBlk hR.2.2.2.1 (by simp)), ((hK.vuAt (hH.has 4 rfl)).head (m := 32) (by omega)), ((hK.vuAt (hH.has 4 rfl)).from (k := 32) (by omega)), (hI.vuAt (hH.has 3 rfl))⟩) 1 (pgo [] (.keep (.nil _ []))) ?_
  clear hH
  rintro v21 E17 w hO18 hH
  obtain ⟨A19, c20, rfl⟩ := hO18.slice
  refine ⟨pcons (hH.blk 1 rfl) pnil, ?_⟩
  refine rx1k 3 ?_
  refine re 3 6 hH rfl (fun _ hF => smAppT (C := cByte) (l := L) (m := (spE (Kb.take 32) (Kb.drop 32) I k m)) (e := 5) (z := (.int .u8 0)) (by_ := 1) rfl (by kernel_rfl) (by kernel_rfl) rfl (ltb rfl) (hF.ev 1 rfl) hO (hF.ev 0 rfl) rfl hO18.nilA (by rw [hel]; unfold maxLen; omega) (by rw [hel]; omega)) (hO18.vuAt (hH.has 8 rfl)) 3 (pgo [] (.nil _ [])) ?_
  clear hH
  rintro v25 E26 w ⟨hO27, _⟩ hH
  replace hO27 : OwnT cByte 5 v25 (L ++ (spE (Kb.take 32) (Kb.drop 32) I k m)) E26 := hO27
  obtain ⟨A23, c24, rfl⟩ := hO27.slice
  refine ⟨pnil, ?_⟩
  refine rv 4 .mv 1 ?_
  refine rv 5 .mv 0 ?_
  refine rn ?_
  refine cxRet ?_
  refine qxDRet2 1 0 7 hH rfl rfl rfl rfl (fun w hH => ?_)
  have e : (L ++ (spE (Kb.take 32) (Kb.drop 32) I k m)) = spBody (lst 32 s) (lst 32 t) c p := by
    unfold spBody spS spKey spBeg
    rw [show 2 ^ (6 + c) = z from by rw [hz, Nat.pow_add], ← hKb, ← hIn, hL, ← hkN, hm2, hx0]
    simp only [List.append_assoc]
  rw [e] at hO27 ⊢
  exact ⟨_, _, rfl, ⟨_, rfl, hO27⟩, hH.out1 [false, false, false, false, false, false, true, false, false] rfl⟩
  exact fun _ _ _ _ _ h => h.elim
end Go.Proofs.YtfloiekaiiapnaaGreatDoor

namespace Go.Proofs.YtfloiekaiiapnaaGreatDoor
open Go Go.RowKit
set_option maxRecDepth 100000

/-- What is wrong with a body's head; the head. -/
def hdE (B : List UInt8) : Nat := if B.length < 36 ∨ (B.getD 0 0).toNat ≠ 2 then 2 else if (B.getD 1 0).toNat ≠ 9 ∨ (B.getD 2 0).toNat ≠ 2 ∨ 10 < (B.getD 3 0).toNat then 10 else 0
def hdV (B : List UInt8) : UInt8 × (Nat → UInt8) := if hdE B = 0 then (B.getD 3 0, cutF B 4) else (0, fun _ => 0)
theorem lst_cutk {l : List UInt8} {n k : Nat} (h : k + n ≤ l.length) : lst n (cutF l k) = (l.drop k).take n :=
  (lst_of_known (fun j hj => by rw [List.getElem?_take, if_pos hj, List.getElem?_drop]; exact cut_get (by omega)) (by rw [List.length_take, List.length_drop]; omega)).symm
theorem hdE_2 {B : List UInt8} (h : B.length < 36 ∨ (B.getD 0 0).toNat ≠ 2) : hdE B = 2 ∧ hdV B = (0, fun _ => 0) := by
  have e : hdE B = 2 := if_pos h
  exact ⟨e, if_neg (by rw [e]; decide)⟩
theorem hdE_10 {B : List UInt8} (h : ¬ (B.length < 36 ∨ (B.getD 0 0).toNat ≠ 2)) (h2 : (B.getD 1 0).toNat ≠ 9 ∨ (B.getD 2 0).toNat ≠ 2 ∨ 10 < (B.getD 3 0).toNat) : hdE B = 10 ∧ hdV B = (0, fun _ => 0) := by
  have e : hdE B = 10 := by unfold hdE; rw [if_neg h, if_pos h2]
  exact ⟨e, if_neg (by rw [e]; decide)⟩
theorem hdE_0 {B : List UInt8} (h : ¬ (B.length < 36 ∨ (B.getD 0 0).toNat ≠ 2)) (h2 : ¬ ((B.getD 1 0).toNat ≠ 9 ∨ (B.getD 2 0).toNat ≠ 2 ∨ 10 < (B.getD 3 0).toNat)) : hdE B = 0 ∧ hdV B = (B.getD 3 0, cutF B 4) := by
  have e : hdE B = 0 := by unfold hdE; rw [if_neg h, if_neg h2]
  exact ⟨e, if_pos e⟩

set_option maxHeartbeats 8000000 in
theorem readHead_s (A : Option Addr) (n c : Nat) (b : List UInt8) : Pure Tryz.prog 22 #[(.slice A n c)] (fun w => Vu cByte w A n c b) (.tuple #[cHd.val (hdV b), .int .i64 ((hdE b : Nat) : Int)]) := by
  refine pure_of (fn := Tryz.f22) Tryz.func22 rfl Tryz.ntmps22 (Nat.le_of_ble_eq_true rfl) rfl ?_
  intro w0 hH hR
  have hll := hR.len; have hcp := hR.cap
  refine zr ?_
  refine zm hH (.al cHd (0, fun _ => 0)) trivial 0 ?_
  clear hH
  rintro _ _ w ⟨g1, rfl, rfl⟩ hH
  refine zv .mv 0 ?_
  refine zn ?_
  refine cxSeq ?_
  refine zr ?_
  refine zv .mv 1 ?_
  refine zv .len 1 ?_
  refine zv (.lt (n < 36)) 1 ?_
  refine zv .mv 1 ?_
  refine pxSplitP 0 rfl (l1 := [(7, (.bool true)), (2, (.pointer (some ⟨g1, 0, none⟩))), (0, (.slice A n c))]) (l2 := [(7, (.bool false)), (2, (.pointer (some ⟨g1, 0, none⟩))), (0, (.slice A n c))]) rfl rfl (fun hg2 => ?_) (fun hg2 => ?_)
  refine pxU rfl (gOff 0 rfl rfl rfl (by decide)) (kA rfl) (by decide) ?_
  refine pxU rfl (gOff 0 rfl rfl rfl (by decide)) (kA rfl) (by decide) ?_
  refine pxU rfl (gOff 0 rfl rfl rfl (by decide)) (kA rfl) (by decide) ?_
  refine pxU rfl (gOff 0 rfl rfl rfl (by decide)) (kA rfl) (by decide) ?_
  refine zv (v := (.bool true)) (fun _ _ hF => opPickT rfl (hF.ev 0 rfl) rfl) 1 ?_
  refine zn ?_
  refine zT ?_
  refine zr ?_
  refine zv (v := (cHd.val (0, fun _ => 0))) (fun _ _ hF => opBuildP (cells := cHd.enc (0, fun _ => 0)) (vals := []) rfl EvP.nil (by kernel_rfl) _) 5 ?_
  refine ze0 0 hH rfl (.sw cHd (0, fun _ => 0) (0, fun _ => 0)) trivial ?_
  clear hH
  rintro _ _ w rfl hH
  refine zv .mv 1 ?_
  refine zn ?_
  refine cxRet ?_
  refine qxThenR ?_
  refine qxRetCT 1 0 (hH.blk 0 rfl) rfl rfl rfl (by kernel_rfl) (Cod.size _ _) (by kernel_rfl) ?_
  obtain ⟨he, hv⟩ := hdE_2 (B := b) (.inl (by omega))
  exact ⟨by rw [he, hv]; rfl, HH.toBelow hH⟩
  refine pxV (v := (.slice A n c)) (fun _ _ hF => opMove rfl (hF.ev 2 rfl)) rfl (gOn 0 rfl rfl rfl (by decide)) (kA rfl) (by decide) ?_
  have hi3 : 0 < n := by omega
  obtain ⟨b4, off5, rfl, hL6, hb7, hR8⟩ := hR.blk (by decide) (Off.nil _ _) (by omega)
  have := hR.cap
  have hj11 : 0 < b.length := by first | exact hi3 | (simp only [List.length_drop]; omega) | (simp only [List.length_drop, List.length_take]; omega) | omega
  obtain ⟨x9, hx10⟩ := get_at b 0 hj11
  have hb12 := UInt8.toNat_lt x9
  refine pxV (v := (.pointer (some ⟨b4, off5 + 0 * 1, none⟩))) (fun _ _ hF => opIndex (i := 0) (e := 5) (sz := 1) rfl (by kernel_rfl) (by kernel_rfl) (hF.ev 0 rfl) rfl rfl hi3) rfl (gOn 1 rfl rfl rfl (by decide)) (kM [false, true, true, true] rfl rfl) (by decide) ?_
  refine pxS (v := (.int .u8 (((x9.toNat) : Nat) : Int))) (fun w => HoldsL cByte w b4 off5 b) (hH.holdsL hL6 hb7 hR8) (fun _ _ hF hS => opLoadT (C := cByte) (y := x9) rfl (hF.ev 0 rfl) (by kernel_rfl) (hS 0 _ hx10) rfl) rfl (gOn 1 rfl rfl rfl (by decide)) (kM [false, true, true, true] rfl rfl) (by decide) ?_
  refine pxV (v := (.bool (decide (x9.toNat ≠ 2)))) (fun _ _ hF => opNeI rfl (hF.ev 0 rfl) rfl (dc (by omega))) rfl (gOn 1 rfl rfl rfl (by decide)) (kM [false, true, true, true] rfl rfl) (by decide) ?_
  refine zv (v := (.bool (decide (x9.toNat ≠ 2)))) (fun _ _ hF => opPickF rfl (hF.ev 1 rfl) (hF.ev 0 rfl)) 3 ?_
  refine zn ?_
  refine zP (fun hc13 => ?_) (fun hc13 => ?_)
  refine zr ?_
  refine zv (v := (cHd.val (0, fun _ => 0))) (fun _ _ hF => opBuildP (cells := cHd.enc (0, fun _ => 0)) (vals := []) rfl EvP.nil (by kernel_rfl) _) 5 ?_
  refine ze0 0 hH rfl (.sw cHd (0, fun _ => 0) (0, fun _ => 0)) trivial ?_
  clear hH
  rintro _ _ w rfl hH
  refine zv .mv 1 ?_
  refine zn ?_
  refine cxRet ?_
  refine qxThenR ?_
  refine qxRetCT 1 0 (hH.blk 0 rfl) rfl rfl rfl (by kernel_rfl) (Cod.size _ _) (by kernel_rfl) ?_
  obtain ⟨he, hv⟩ := hdE_2 (B := b) (.inr (by rw [getD_of hx10]; omega))
  exact ⟨by rw [he, hv]; rfl, HH.toBelow hH⟩
  refine cxSkip ?_
  refine qxThen ?_
  refine cxSeq ?_
  refine zr ?_
  refine zv .mv 1 ?_
  have hi14 : 1 < n := by omega
  have hj17 : 1 < b.length := by first | exact hi14 | (simp only [List.length_drop]; omega) | (simp only [List.length_drop, List.length_take]; omega) | omega
  obtain ⟨x15, hx16⟩ := get_at b 1 hj17
  have hb18 := UInt8.toNat_lt x15
  refine zv (.ix 1 1 (hi := hi14)) 1 ?_
  refine zs (S := fun w => HoldsL cByte w b4 off5 b) (hH.holdsL hL6 hb7 hR8) (.ld cByte x15 (fun _ hS => (hS 1 _ hx16))) 1 ?_
  refine zv (.ne (x15.toNat ≠ 9)) 1 ?_
  refine zv .mv 1 ?_
  refine pxSplitP 0 rfl (l1 := [(18, (.bool true)), (2, (.pointer (some ⟨g1, 0, none⟩))), (0, (.slice (some ⟨b4, off5, none⟩) n c))]) (l2 := [(18, (.bool false)), (2, (.pointer (some ⟨g1, 0, none⟩))), (0, (.slice (some ⟨b4, off5, none⟩) n c))]) rfl rfl (fun hg19 => ?_) (fun hg19 => ?_)
  refine pxU rfl (gOff 0 rfl rfl rfl (by decide)) (kA rfl) (by decide) ?_
  refine pxU rfl (gOff 0 rfl rfl rfl (by decide)) (kA rfl) (by decide) ?_
  refine pxU rfl (gOff 0 rfl rfl rfl (by decide)) (kA rfl) (by decide) ?_
  refine pxU rfl (gOff 0 rfl rfl rfl (by decide)) (kA rfl) (by decide) ?_
  refine zv (v := (.bool true)) (fun _ _ hF => opPickT rfl (hF.ev 0 rfl) rfl) 1 ?_
  refine zv .mv 1 ?_
  refine pxU rfl (gOff 0 rfl rfl rfl (by decide)) (kA rfl) (by decide) ?_
  refine pxU rfl (gOff 0 rfl rfl rfl (by decide)) (kA rfl) (by decide) ?_
  refine pxU rfl (gOff 0 rfl rfl rfl (by decide)) (kA rfl) (by decide) ?_
  refine pxU rfl (gOff 0 rfl rfl rfl (by decide)) (kA rfl) (by decide) ?_
  refine zv (v := (.bool true)) (fun _ _ hF => opPickT rfl (hF.ev 0 rfl) rfl) 1 ?_
  refine zn ?_
  refine zT ?_
  refine zr ?_
  refine zv (v := (cHd.val (0, fun _ => 0))) (fun _ _ hF => opBuildP (cells := cHd.enc (0, fun _ => 0)) (vals := []) rfl EvP.nil (by kernel_rfl) _) 5 ?_
  refine ze0 0 hH rfl (.sw cHd (0, fun _ => 0) (0, fun _ => 0)) trivial ?_
  clear hH
  rintro _ _ w rfl hH
  refine zv .mv 1 ?_
  refine zn ?_
  refine cxRet ?_
  refine qxThenR ?_
  refine qxRetCT 1 0 (hH.blk 0 rfl) rfl rfl rfl (by kernel_rfl) (Cod.size _ _) (by kernel_rfl) ?_
  have e0 : b.getD 0 0 = x9 := getD_of hx10
  have e1 : b.getD 1 0 = x15 := getD_of hx16
  have hok : ¬ (b.length < 36 ∨ (b.getD 0 0).toNat ≠ 2) := by rw [e0]; omega
  obtain ⟨he, hv⟩ := hdE_10 hok (.inl (by rw [e1]; omega))
  exact ⟨by rw [he, hv]; rfl, HH.toBelow hH⟩
  refine pxV (v := (.slice (some ⟨b4, off5, none⟩) n c)) (fun _ _ hF => opMove rfl (hF.ev 2 rfl)) rfl (gOn 0 rfl rfl rfl (by decide)) (kA rfl) (by decide) ?_
  have hi20 : 2 < n := by omega
  have hj23 : 2 < b.length := by first | exact hi20 | (simp only [List.length_drop]; omega) | (simp only [List.length_drop, List.length_take]; omega) | omega
  obtain ⟨x21, hx22⟩ := get_at b 2 hj23
  have hb24 := UInt8.toNat_lt x21
  refine pxV (v := (.pointer (some ⟨b4, off5 + 2 * 1, none⟩))) (fun _ _ hF => opIndex (i := 2) (e := 5) (sz := 1) rfl (by kernel_rfl) (by kernel_rfl) (hF.ev 0 rfl) rfl rfl hi20) rfl (gOn 1 rfl rfl rfl (by decide)) (kM [false, true, true, true] rfl rfl) (by decide) ?_
  refine pxS (v := (.int .u8 (((x21.toNat) : Nat) : Int))) (fun w => HoldsL cByte w b4 off5 b) (hH.holdsL hL6 hb7 hR8) (fun _ _ hF hS => opLoadT (C := cByte) (y := x21) rfl (hF.ev 0 rfl) (by kernel_rfl) (hS 2 _ hx22) rfl) rfl (gOn 1 rfl rfl rfl (by decide)) (kM [false, true, true, true] rfl rfl) (by decide) ?_
  refine pxV (v := (.bool (decide (x21.toNat ≠ 2)))) (fun _ _ hF => opNeI rfl (hF.ev 0 rfl) rfl (dc (by omega))) rfl (gOn 1 rfl rfl rfl (by decide)) (kM [false, true, true, true] rfl rfl) (by decide) ?_
  refine zv (v := (.bool (decide (x21.toNat ≠ 2)))) (fun _ _ hF => opPickF rfl (hF.ev 1 rfl) (hF.ev 0 rfl)) 3 ?_
  refine zv .mv 1 ?_
  refine pxSplitP 0 rfl (l1 := [(24, (.bool true)), (2, (.pointer (some ⟨g1, 0, none⟩))), (0, (.slice (some ⟨b4, off5, none⟩) n c))]) (l2 := [(24, (.bool false)), (2, (.pointer (some ⟨g1, 0, none⟩))), (0, (.slice (some ⟨b4, off5, none⟩) n c))]) rfl rfl (fun hg25 => ?_) (fun hg25 => ?_)
  refine pxU rfl (gOff 0 rfl rfl rfl (by decide)) (kA rfl) (by decide) ?_
  refine pxU rfl (gOff 0 rfl rfl rfl (by decide)) (kA rfl) (by decide) ?_
  refine pxU rfl (gOff 0 rfl rfl rfl (by decide)) (kA rfl) (by decide) ?_
  refine pxU rfl (gOff 0 rfl rfl rfl (by decide)) (kA rfl) (by decide) ?_
  refine zv (v := (.bool true)) (fun _ _ hF => opPickT rfl (hF.ev 0 rfl) rfl) 1 ?_
  refine zn ?_
  refine zT ?_
  refine zr ?_
  refine zv (v := (cHd.val (0, fun _ => 0))) (fun _ _ hF => opBuildP (cells := cHd.enc (0, fun _ => 0)) (vals := []) rfl EvP.nil (by kernel_rfl) _) 5 ?_
  refine ze0 0 hH rfl (.sw cHd (0, fun _ => 0) (0, fun _ => 0)) trivial ?_
  clear hH
  rintro _ _ w rfl hH
  refine zv .mv 1 ?_
  refine zn ?_
  refine cxRet ?_
  refine qxThenR ?_
  refine qxRetCT 1 0 (hH.blk 0 rfl) rfl rfl rfl (by kernel_rfl) (Cod.size _ _) (by kernel_rfl) ?_
  have e0 : b.getD 0 0 = x9 := getD_of hx10
  have e1 : b.getD 1 0 = x15 := getD_of hx16
  have e2 : b.getD 2 0 = x21 := getD_of hx22
  have hok : ¬ (b.length < 36 ∨ (b.getD 0 0).toNat ≠ 2) := by rw [e0]; omega
  obtain ⟨he, hv⟩ := hdE_10 hok (.inr (.inl (by rw [e2]; omega)))
  exact ⟨by rw [he, hv]; rfl, HH.toBelow hH⟩
  refine pxV (v := (.slice (some ⟨b4, off5, none⟩) n c)) (fun _ _ hF => opMove rfl (hF.ev 2 rfl)) rfl (gOn 0 rfl rfl rfl (by decide)) (kA rfl) (by decide) ?_
  have hi26 : 3 < n := by omega
  have hj29 : 3 < b.length := by first | exact hi26 | (simp only [List.length_drop]; omega) | (simp only [List.length_drop, List.length_take]; omega) | omega
  obtain ⟨x27, hx28⟩ := get_at b 3 hj29
  have hb30 := UInt8.toNat_lt x27
  refine pxV (v := (.pointer (some ⟨b4, off5 + 3 * 1, none⟩))) (fun _ _ hF => opIndex (i := 3) (e := 5) (sz := 1) rfl (by kernel_rfl) (by kernel_rfl) (hF.ev 0 rfl) rfl rfl hi26) rfl (gOn 1 rfl rfl rfl (by decide)) (kM [false, true, true, true] rfl rfl) (by decide) ?_
  refine pxS (v := (.int .u8 (((x27.toNat) : Nat) : Int))) (fun w => HoldsL cByte w b4 off5 b) (hH.holdsL hL6 hb7 hR8) (fun _ _ hF hS => opLoadT (C := cByte) (y := x27) rfl (hF.ev 0 rfl) (by kernel_rfl) (hS 3 _ hx28) rfl) rfl (gOn 1 rfl rfl rfl (by decide)) (kM [false, true, true, true] rfl rfl) (by decide) ?_
  refine pxV (v := (.bool (decide (x27.toNat > 10)))) (fun _ _ hF => opGtr rfl (hF.ev 0 rfl) rfl (dc (by omega))) rfl (gOn 1 rfl rfl rfl (by decide)) (kM [false, true, true, true] rfl rfl) (by decide) ?_
  refine zv (v := (.bool (decide (x27.toNat > 10)))) (fun _ _ hF => opPickF rfl (hF.ev 1 rfl) (hF.ev 0 rfl)) 3 ?_
  refine zn ?_
  refine zP (fun hc31 => ?_) (fun hc31 => ?_)
  refine zr ?_
  refine zv (v := (cHd.val (0, fun _ => 0))) (fun _ _ hF => opBuildP (cells := cHd.enc (0, fun _ => 0)) (vals := []) rfl EvP.nil (by kernel_rfl) _) 5 ?_
  refine ze0 0 hH rfl (.sw cHd (0, fun _ => 0) (0, fun _ => 0)) trivial ?_
  clear hH
  rintro _ _ w rfl hH
  refine zv .mv 1 ?_
  refine zn ?_
  refine cxRet ?_
  refine qxThenR ?_
  refine qxRetCT 1 0 (hH.blk 0 rfl) rfl rfl rfl (by kernel_rfl) (Cod.size _ _) (by kernel_rfl) ?_
  have e0 : b.getD 0 0 = x9 := getD_of hx10
  have e1 : b.getD 1 0 = x15 := getD_of hx16
  have e2 : b.getD 2 0 = x21 := getD_of hx22
  have e3 : b.getD 3 0 = x27 := getD_of hx28
  have hok : ¬ (b.length < 36 ∨ (b.getD 0 0).toNat ≠ 2) := by rw [e0]; omega
  obtain ⟨he, hv⟩ := hdE_10 hok (.inr (.inr (by rw [e3]; omega)))
  exact ⟨by rw [he, hv]; rfl, HH.toBelow hH⟩
  refine cxSkip ?_
  refine qxThen ?_
  refine zx ?_
  replace hH := hH.drew
  refine rv 0 .mv 1 ?_
  have hi32 : 3 < n := by omega
  have hj35 : 3 < b.length := by first | exact hi32 | (simp only [List.length_drop]; omega) | (simp only [List.length_drop, List.length_take]; omega) | omega
  refine rv 1 (.ix 1 3 (hi := hi32)) 1 ?_
  refine rld 2 (S := fun w => HoldsL cByte w b4 off5 b) (hH.holdsL hL6 hb7 hR8) (.ld cByte x27 (fun _ hS => (hS 3 _ hx28))) 1 ?_
  refine rv 3 .mv 4 ?_
  refine rv 4 (v := (.slice (some ⟨b4, off5 + 4 * 1, none⟩) (n - 4) (c - 4))) (fun _ _ hF => opSlcL (k := 4) (e := 5) (sz := 1) rfl (by kernel_rfl) (by kernel_rfl) (hF.ev 0 rfl) rfl rfl (by omega) (by omega)) 1 ?_
  refine rv 5 (v := (.pointer (some ⟨b4, off5 + 4 * 1, none⟩))) (fun _ _ hF => opToArray (m := 32) (e := 5) rfl (by kernel_rfl) (hF.ev 0 rfl) (by omega)) 1 ?_
  refine rld 6 (S := fun w => HoldsL cByte w b4 off5 b) (hH.holdsL hL6 hb7 hR8) (.ld (cArr 32) (cutF b 4) (fun _ hS => (hS.arr 4 32 (by first | omega | (rw [lst_len]; omega) | (simp only [List.length_drop, List.length_take]; omega) | (simp only [List.length_drop, List.length_take, lst_len]; omega))))) 1 ?_
  refine rv 7 (v := (cHd.val (x27, (cutF b 4)))) (fun _ _ hF => opBuildP (cells := cHd.enc (x27, (cutF b 4))) rfl (EvP.cons (v := (.int .u8 (((x27.toNat) : Nat) : Int))) (hF.ev 1 rfl) (EvP.cons (v := ((cArr 32).val (cutF b 4))) (hF.ev 0 rfl) EvP.nil)) (built_pair (x := (x27, (cutF b 4))) (by kernel_rfl) rfl rfl) _) 3 ?_
  refine rx1k 8 ?_
  refine re0 8 0 hH rfl (.sw cHd (0, fun _ => 0) (x27, (cutF b 4))) trivial (pgo [] (pgo [] (.nil _ []))) ?_
  clear hH
  rintro _ _ w rfl hH
  refine ⟨pnil, ?_⟩
  refine rv 9 .mv 1 ?_
  refine rn ?_
  refine cxRet ?_
  refine qxRetCT 1 0 (hH.blk 0 rfl) rfl rfl rfl (by kernel_rfl) (Cod.size _ _) (by kernel_rfl) ?_
  have e0 : b.getD 0 0 = x9 := getD_of hx10
  have e1 : b.getD 1 0 = x15 := getD_of hx16
  have e2 : b.getD 2 0 = x21 := getD_of hx22
  have e3 : b.getD 3 0 = x27 := getD_of hx28
  have hok : ¬ (b.length < 36 ∨ (b.getD 0 0).toNat ≠ 2) := by rw [e0]; omega
  obtain ⟨he, hv⟩ := hdE_0 hok (by rw [e1, e2, e3]; omega)
  rw [e3] at hv
  exact ⟨by rw [he, hv]; rfl, HH.toBelow hH⟩
end Go.Proofs.YtfloiekaiiapnaaGreatDoor

namespace Go.Proofs.YtfloiekaiiapnaaGreatDoor
open Go Go.RowKit
set_option maxRecDepth 100000

theorem spO_few {K b I q : List UInt8} {z f i : Nat} {O : List UInt8} (h : q.length < 16) : spO K b I z f i q O = none := by
  rw [spO_end (by omega)]
  exact if_neg fun g => by have := g.1.1; omega
theorem ocS_16 {K N A S : List UInt8} (h : S.length = 16) : (ocG K N A S ∧ (ocP K N S).length = 0) ↔ ocS K N A [] = S := by
  constructor
  · intro ⟨h1, h2⟩
    have h3 := (ocG_iff (by omega)).1 h1
    rw [List.eq_nil_of_length_eq_zero h2] at h3
    have h4 : lst 16 (cutF S (S.length - 16)) = S := by rw [h]; exact (lst_of_known (fun j hj => by have := cut_get (T := S) (k := 0) (j := j) (by omega); rwa [Nat.zero_add] at this) h).symm
    rw [h4] at h3
    exact h3
  · intro e
    subst e
    exact ⟨ocG_seal _ _ _ _, by rw [ocP_seal]; rfl⟩
theorem cut_part {q : List UInt8} {z a : Nat} : (((q.take (q.length - 16)).drop a).take z) = (q.drop a).take (min z ((q.drop a).length - 16)) := by
  rw [List.drop_take, List.take_take, List.length_drop, show q.length - 16 - a = q.length - a - 16 by omega]
/-- Where the k-th chunk begins. -/
abbrev opA (z n k : Nat) : Nat := min (z * k) n
theorem open_next {K b I q L W : List UInt8} {z k : Nat} {V : Option (List UInt8)} (hq : 16 ≤ q.length) (hx : (z + 16) * k < q.length - 16)
    (hT : ∃ f, q.length - opA (z + 16) (q.length - 16) k ≤ f ∧ spO K b I z f k (q.drop (opA (z + 16) (q.length - 16) k)) L = V) (hW : W = ((q.take (q.length - 16)).drop ((z + 16) * k)).take (z + 16)) :
    (opK K (spN b k) I W → ∃ f, q.length - opA (z + 16) (q.length - 16) (k + 1) ≤ f ∧ spO K b I z f (k + 1) (q.drop (opA (z + 16) (q.length - 16) (k + 1))) (L ++ ocP K (spN b k) W) = V) ∧ (¬ opK K (spN b k) I W → V = none) := by
  obtain ⟨f, hf, e⟩ := hT
  have ha : opA (z + 16) (q.length - 16) k = (z + 16) * k := Nat.min_eq_left (by omega)
  rw [ha] at hf e
  have hl : (q.drop ((z + 16) * k)).length = q.length - (z + 16) * k := List.length_drop
  have hW2 : W = spH z (q.drop ((z + 16) * k)) := hW.trans cut_part
  have hn : opA (z + 16) (q.length - 16) (k + 1) = (z + 16) * k + min (z + 16) ((q.drop ((z + 16) * k)).length - 16) := by unfold opA; rw [hl, Nat.mul_add (z + 16) k 1, Nat.mul_one]; omega
  obtain ⟨f, rfl⟩ : ∃ g, f = g + 1 := ⟨f - 1, by omega⟩
  refine ⟨fun h => ⟨f, ?_, ?_⟩, fun h => ?_⟩
  · rw [hn, hl]; omega
  · rw [← e, spO_next (by omega) (hW2 ▸ h.1) (hW2 ▸ h.2), hn, ← List.drop_drop, ← hW2]
  · rw [← e]
    exact spO_bad (by omega) (fun g => h (by rw [hW2]; exact g))
theorem opE_0 {K N A S : List UInt8} (h : ¬ opE K N A S ≠ 0) (i : Nat) : opK K N A S ∧ opR K N A S = ocP K N S ∧ opI K N A S i = i + 1 := by
  by_cases g : opK K N A S
  · exact ⟨g, if_pos g, if_pos g⟩
  · exact absurd (by unfold opE; rw [if_neg g]; decide) h
theorem opE_1 {K N A S : List UInt8} (h : opE K N A S ≠ 0) : ¬ opK K N A S := fun g => h (if_pos g)
theorem opE_5 {K N A S : List UInt8} (h : opE K N A S ≠ 0) : opE K N A S = 5 := if_neg (opE_1 h)
theorem opR_len {K N A S : List UInt8} : (opR K N A S).length ≤ S.length := by
  unfold opR
  split
  · rw [ocP_len]; omega
  · exact Nat.zero_le _

set_option maxHeartbeats 8000000 in
theorem openAll_few (g : Nat) (A : Option Addr) (zk : Nat) (K : List UInt8) (B : Option Addr) (y : Nat) (b : List UInt8) (Ai : Option Addr) (yi : Nat) (I : List UInt8) (z : Nat) (Aq : Option Addr) (yq : Nat) (q : List UInt8) (hq : q.length ≤ 20000) (hfew : q.length < 16) : Does Tryz.prog 23 #[(.pointer (some ⟨g, 0, none⟩)), (.slice Aq q.length yq), (.int .i64 (((z) : Nat) : Int))] [bl g 55 (cRn.enc ((A, 32, zk), (B, 7, y), (Ai, 5, yi), 0, 0))] (fun w => w.heap[2]? = some (.cells ((cArr 256).enc boxF) 105 (0, 0)) ∧ w.heap[4]? = some (.cells ((cArr 64).enc dbF) 104 (0, 0)) ∧ (Vu cByte w A 32 zk K ∧ Off A 32 [g]) ∧ (Vu cByte w B 7 y b ∧ Off B 7 [g]) ∧ (Vu cByte w Ai 5 yi I ∧ Off Ai 5 [g]) ∧ Vu cByte w Aq q.length yq q ∧ Off Aq q.length [g]) (fun v E' => ∃ o, v = .tuple #[o, .int .i64 (((if (spO K b I z q.length 0 q []).isSome then 0 else 5) : Nat) : Int)] ∧ OwnT cByte 5 o ((spO K b I z q.length 0 q []).getD []) E') := by
  refine does_ofM (fn := Tryz.f23) Tryz.func23 rfl Tryz.ntmps23 (Nat.le_of_ble_eq_true rfl) rfl ?_
  intro w0 hH hR
  refine zr ?_
  refine zm hH (fun _ hF => smBox rfl (hF.ev 0 rfl) rfl) trivial 1 ?_
  clear hH
  rintro _ _ w ⟨g1, rfl, rfl⟩ hH
  refine zm hH (fun _ hF => smAlloc (z := (.slice none 0 0)) rfl (by kernel_rfl) rfl) trivial 0 ?_
  clear hH
  rintro _ _ w ⟨g2, rfl, rfl⟩ hH
  refine zm hH (fun _ hF => smAlloc (z := (.int .i64 0)) rfl (by kernel_rfl) rfl) trivial 0 ?_
  clear hH
  rintro _ _ w ⟨g3, rfl, rfl⟩ hH
  refine zn ?_
  refine zr ?_
  refine zv .mv 0 ?_
  refine zv .len 1 ?_
  refine zv (v := (.int .i64 ((((q.length) : Nat) : Int) - 16))) (fun _ _ hF => opSub rfl (hF.ev 0 rfl) rfl (wI rfl (by omega) (by omega))) 1 ?_
  refine zv .mv 1 ?_
  refine zn ?_
  refine cxSeq ?_
  refine zr ?_
  refine zv .mv 0 ?_
  refine zv (v := (.bool true)) (fun _ _ hF => opLss rfl (hF.ev 0 rfl) rfl (decide_eq_true (by omega))) 1 ?_
  refine zn ?_
  refine zT ?_
  refine zr ?_
  refine ze0 2 hH rfl .sc trivial ?_
  clear hH
  rintro _ _ w rfl hH
  refine ze0 3 hH rfl .sc trivial ?_
  clear hH
  rintro _ _ w rfl hH
  refine zn ?_
  refine cxRet ?_
  refine qxThenR ?_
  refine qxMRet1CC 3 2 (hH.blk 2 rfl) (hH.blk 3 rfl) rfl rfl rfl (by kernel_rfl) (by kernel_rfl) ?_
  have hW : (spO K b I z q.length 0 q []) = none := spO_few hfew
  exact ⟨_, _, rfl, ⟨_, by rw [hW]; rfl, by rw [hW]; exact OwnT.nil _ _⟩, hH.out [false, false, false, false]⟩

theorem opennxt {K b I q L : List UInt8} {z k : Nat} {V : Option (List UInt8)} {pre : List (Ptz (z + 16) (q.length - 16))} {x : Ptz (z + 16) (q.length - 16)} (hq : 16 ≤ q.length) (hk : k = pre.length)
    (hT : pre.map (·.1) = List.range k → ∃ f, q.length - opA (z + 16) (q.length - 16) k ≤ f ∧ spO K b I z f k (q.drop (opA (z + 16) (q.length - 16) k)) L = V) (hx : (z + 16) * x.1 < q.length - 16) (h : (pre ++ [x]).map (·.1) = List.range (pre ++ [x]).length)
    (hK : opK K (spN b k) I (((q.take (q.length - 16)).drop ((z + 16) * x.1)).take (z + 16))) : ∃ f, q.length - opA (z + 16) (q.length - 16) (k + 1) ≤ f ∧ spO K b I z f (k + 1) (q.drop (opA (z + 16) (q.length - 16) (k + 1))) (L ++ ocP K (spN b k) (((q.take (q.length - 16)).drop ((z + 16) * x.1)).take (z + 16))) = V := by
  obtain ⟨h1, h2⟩ := map_snoc_range h
  replace h2 : x.1 = k := h2.trans hk.symm
  rw [h2] at hx hK ⊢
  exact (open_next hq hx (hT (by rw [hk]; exact h1)) rfl).1 hK
theorem openret {K b I q L : List UInt8} {z k : Nat} {V : Option (List UInt8)} {pre : List (Ptz (z + 16) (q.length - 16))} {x : Ptz (z + 16) (q.length - 16)} (hq : 16 ≤ q.length) (hk : k = pre.length)
    (hT : pre.map (·.1) = List.range k → ∃ f, q.length - opA (z + 16) (q.length - 16) k ≤ f ∧ spO K b I z f k (q.drop (opA (z + 16) (q.length - 16) k)) L = V) (hx : (z + 16) * x.1 < q.length - 16) (h : (pre ++ [x]).map (·.1) = List.range (pre ++ [x]).length)
    (hK : ¬ opK K (spN b k) I (((q.take (q.length - 16)).drop ((z + 16) * x.1)).take (z + 16))) : V = none := by
  obtain ⟨h1, h2⟩ := map_snoc_range h
  replace h2 : x.1 = k := h2.trans hk.symm
  rw [h2] at hx hK
  exact (open_next hq hx (hT (by rw [hk]; exact h1)) rfl).2 hK
theorem openall {n z : Nat} (hz : 0 < z) : n ≤ z * ((n + (z - 1)) / z) := by
  have h := Nat.div_add_mod (n + (z - 1)) z
  have h2 := Nat.mod_lt (n + (z - 1)) hz
  omega

set_option maxHeartbeats 8000000 in
theorem openAll_s (g : Nat) (A : Option Addr) (zk : Nat) (K : List UInt8) (B : Option Addr) (y : Nat) (b : List UInt8) (Ai : Option Addr) (yi : Nat) (I : List UInt8) (z : Nat) (hz1 : 1 ≤ z) (hz2 : z ≤ 65536) (Aq : Option Addr) (yq : Nat) (q : List UInt8) (hq : q.length ≤ 20000) (hq16 : 16 ≤ q.length) : Does Tryz.prog 23 #[(.pointer (some ⟨g, 0, none⟩)), (.slice Aq q.length yq), (.int .i64 (((z) : Nat) : Int))] [bl g 55 (cRn.enc ((A, 32, zk), (B, 7, y), (Ai, 5, yi), 0, 0))] (fun w => w.heap[2]? = some (.cells ((cArr 256).enc boxF) 105 (0, 0)) ∧ w.heap[4]? = some (.cells ((cArr 64).enc dbF) 104 (0, 0)) ∧ (Vu cByte w A 32 zk K ∧ Off A 32 [g]) ∧ (Vu cByte w B 7 y b ∧ Off B 7 [g]) ∧ (Vu cByte w Ai 5 yi I ∧ Off Ai 5 [g]) ∧ Vu cByte w Aq q.length yq q ∧ Off Aq q.length [g]) (fun v E' => ∃ o, v = .tuple #[o, .int .i64 (((if (spO K b I z q.length 0 q []).isSome then 0 else 5) : Nat) : Int)] ∧ OwnT cByte 5 o ((spO K b I z q.length 0 q []).getD []) E') := by
  refine does_ofM (fn := Tryz.f23) Tryz.func23 rfl Tryz.ntmps23 (Nat.le_of_ble_eq_true rfl) rfl ?_
  intro w0 hH hR
  have hcp := hR.2.2.2.2.2.1.cap
  have hb0 : 2 ∉ [g] := ne_ty hR.1 (hH.blk 0 rfl) rfl
  have hd0 : 4 ∉ [g] := ne_ty hR.2.1 (hH.blk 0 rfl) rfl
  have hcn : (q.length - 16 + (z + 16 - 1)) / (z + 16) ≤ q.length - 16 := spC_le (z := z + 16) (n := q.length - 16) (by omega)
  have hKl := hR.2.2.1.1.len; have hbl := hR.2.2.2.1.1.len; have hIl := hR.2.2.2.2.1.1.len
  refine zr ?_
  refine zm hH (fun _ hF => smBox rfl (hF.ev 0 rfl) rfl) trivial 1 ?_
  clear hH
  rintro _ _ w ⟨g1, rfl, rfl⟩ hH
  refine zm hH (fun _ hF => smAlloc (z := (.slice none 0 0)) rfl (by kernel_rfl) rfl) trivial 0 ?_
  clear hH
  rintro _ _ w ⟨g2, rfl, rfl⟩ hH
  refine zm hH (fun _ hF => smAlloc (z := (.int .i64 0)) rfl (by kernel_rfl) rfl) trivial 0 ?_
  clear hH
  rintro _ _ w ⟨g3, rfl, rfl⟩ hH
  refine zn ?_
  refine zr ?_
  refine zv .mv 0 ?_
  refine zv .len 1 ?_
  refine zv (.sub ((((q.length - 16)) : Nat) : Int)) 1 ?_
  refine zv .mv 1 ?_
  refine zn ?_
  refine cxSeq ?_
  refine zr ?_
  refine zv .mv 0 ?_
  refine zv (v := (.bool false)) (fun _ _ hF => opLss rfl (hF.ev 0 rfl) rfl (decide_eq_false (by omega))) 1 ?_
  refine zn ?_
  refine zF ?_
  refine cxSkip ?_
  refine qxThen ?_
  refine zr ?_
  refine zm hH (fun _ hF => smAlloc (z := (.slice none 0 0)) rfl (by kernel_rfl) rfl) trivial 1 ?_
  clear hH
  rintro _ _ w ⟨g4, rfl, rfl⟩ hH
  refine zn ?_
  refine cxSeq ?_
  refine zr ?_
  refine zv .mv 0 ?_
  refine zv .mv 0 ?_
  refine zv (v := (.slice Aq (q.length - 16) yq)) (fun _ _ hF => opCutH (h := (q.length - 16)) (e := 5) (sz := 1) rfl (by kernel_rfl) (by kernel_rfl) (hF.ev 1 rfl) (hF.ev 0 rfl) rfl (by omega)) 3 ?_
  refine zv .mv 128 ?_
  refine zv (.add ((((z + 16)) : Nat) : Int)) 1 ?_
  refine zm hH (.call Tryz.func13 (chkz_d (z + 16) (by omega) Aq (q.length - 16) yq)) trivial 3 ?_
  clear hH
  rintro _ _ w ⟨B_, rfl, rfl⟩ hH
  refine zn ?_
  refine cxBlock ?_
  replace hH := HH.pad hH 1
  replace hH : HH w0 (bks ([bl g 55 (cRn.enc ((A, 32, zk), (B, 7, y), (Ai, 5, yi), 0, 0))])) [[bl g 55 (cRn.enc ((A, 32, zk), (B, 7, y), (Ai, 5, yi), 0, 0))], [bl g1 35 #[(.pointer (some ⟨g, 0, none⟩))]], [bl g2 23 #[(.slice none 0 0)]], [bl g3 25 #[(.int .i64 0)]], [bl g4 23 #[(.slice none 0 0)]], [bl B_ 23 #[.slice Aq (q.length - 16) yq], bl (B_ + 1) 3 #[.int .i64 (((z + 16) : Nat) : Int)]], []] w := hH
  obtain ⟨b0, off, hA⟩ : ∃ b off, 0 < (q.length - 16) → Aq = some ⟨b, off, none⟩ := by
    by_cases h : 0 < (q.length - 16)
    · obtain ⟨b, off, h1, _⟩ := (hR.2.2.2.2.2.1.head (m := q.length - 16) (by omega)).open h; exact ⟨b, off, fun _ => h1⟩
    · exact ⟨0, 0, fun h' => absurd h' h⟩
  have hH1 : HH w0 (bks ([bl g 55 (cRn.enc ((A, 32, zk), (B, 7, y), (Ai, 5, yi), 0, 0))])) [[bl B_ 23 #[.slice Aq (q.length - 16) yq], bl (B_ + 1) 3 #[.int .i64 (((z + 16) : Nat) : Int)]], [bl g1 35 #[(.pointer (some ⟨g, 0, none⟩))]], [bl g2 23 #[(.slice none 0 0)]], [bl g3 25 #[(.int .i64 0)]], [bl g4 23 #[(.slice none 0 0)]], [bl g 55 (cRn.enc ((A, 32, zk), (B, 7, y), (Ai, 5, yi), 0, 0))], []] w := HH.sel hH [5, 1, 2, 3, 4, 0, 6] rfl (by decide)
  have hH2 : HH w0 (bks ([bl g 55 (cRn.enc ((A, 32, zk), (B, 7, y), (Ai, 5, yi), 0, 0))])) ([[bl B_ 23 #[.slice Aq (q.length - 16) yq], bl (B_ + 1) 3 #[.int .i64 (((z + 16) : Nat) : Int)]]] ++ [([bl g1 35 #[(.pointer (some ⟨g, 0, none⟩))]]) ++ (([bl g2 23 #[(.slice none 0 0)]]) ++ (([bl g3 25 #[(.int .i64 0)]]) ++ (([bl g4 23 #[(.slice none 0 0)]]) ++ (([bl g 55 (cRn.enc ((A, 32, zk), (B, 7, y), (Ai, 5, yi), 0, 0))]) ++ ([])))))]) w := hH1.cast (by simp)
  clear hH1
  have hcB1 : Blk w B_ 23 #[.slice Aq (q.length - 16) yq] := (hH2.has 0 rfl).blk (bl B_ 23 #[.slice Aq (q.length - 16) yq]) (by simp)
  have hcB2 : Blk w (B_ + 1) 3 #[.int .i64 (((z + 16) : Nat) : Int)] := (hH2.has 0 rfl).blk (bl (B_ + 1) 3 #[.int .i64 (((z + 16) : Nat) : Int)]) (by simp)
  have hB1 := hcB2.lt
  clear hH
  refine cxRangeR (α := Ptz (z + 16) (q.length - 16)) (S := fun ys => ys.map (·.1) = List.range (((q.length - 16) + ((z + 16) - 1)) / (z + 16))) (Sp := fun ys => ys.map (·.1) = List.range ys.length) (N := (((q.length - 16) + ((z + 16) - 1)) / (z + 16))) (Kp := Kpz B_) (encs := fun x => pvz (z + 16) b0 off (q.length - 16) x.1) (fun (pre : List (Ptz (z + 16) (q.length - 16))) E => ∃ (A1 : Option Addr) (c1 : Nat) (L : List UInt8) (E1 : Hl) (k m : Nat), E = ([bl g1 35 #[(.pointer (some ⟨g, 0, none⟩))]]) ++ (([bl g2 23 #[(.slice none 0 0)]]) ++ (([bl g3 25 #[(.int .i64 0)]]) ++ (([bl g4 23 #[(.slice A1 L.length c1)]]) ++ (([bl g 55 (cRn.enc ((A, 32, zk), (B, 7, y), (Ai, 5, yi), k, m))]) ++ (E1))))) ∧ OwnT cByte 5 (.slice A1 L.length c1) L E1 ∧ k = pre.length ∧ L.length ≤ 20000 * k ∧ m = L.length ∧ (pre.map (·.1) = List.range k → ∃ f, q.length - opA (z + 16) (q.length - 16) k ≤ f ∧ spO K b I z f k (q.drop (opA (z + 16) (q.length - 16) k)) L = (spO K b I z q.length 0 q [])))
    (fun pre E => E = ([bl g2 23 #[(.slice none 0 0)]]) ++ ([bl g3 25 #[(.int .i64 5)]]) ∧ (pre.map (·.1) = List.range pre.length → (spO K b I z q.length 0 q []) = none)) 0 hH2 rfl (enters_of Tryz.func28 (by kernel_rfl) rfl) (chkz_stops 2 B_ b0 off (q.length - 16) yq (z + 16) Aq w (by omega) (by omega) (by omega) hA (by omega) (by omega) hcB1 hcB2) (fun h k => h.trans k)
    (fun W l' o o' hl _ _ _ => ⟨World.putObj_heap_other (by omega), World.putObj_heap_other (by omega)⟩)
    (fun W W' h h' => ⟨(h'.blk (bl B_ 23 #[.slice Aq (q.length - 16) yq]) (by simp)).trans (h.blk (bl B_ 23 #[.slice Aq (q.length - 16) yq]) (by simp)).symm, (h'.blk (bl (B_ + 1) 3 #[.int .i64 (((z + 16) : Nat) : Int)]) (by simp)).trans (h.blk (bl (B_ + 1) 3 #[.int .i64 (((z + 16) : Nat) : Int)]) (by simp)).symm⟩)
    (fun x hx => by simp only [List.flatten_cons, List.flatten_nil, List.append_nil, List.mem_cons, List.not_mem_nil, or_false] at hx; rcases hx with rfl | rfl <;> rfl)
    (fun pre E ⟨A1, c1, L, E1, k, m, h, hO, _⟩ => by subst h; exact .app .bl (.app .bl (.app .bl (.app .bl (.app .bl hO.allCells))))) (fun pre E ⟨h, _⟩ => by subst h; exact .app .bl .bl)
    ⟨none, 0, [], [], 0, 0, rfl, OwnT.nil _ _, rfl, Nat.le_refl _, rfl, fun _ => ⟨q.length, by omega, by rw [show opA (z + 16) (q.length - 16) 0 = 0 from by unfold opA; rw [Nat.mul_zero, Nat.zero_min], List.drop_zero]⟩⟩ rfl (by decide) (fun a W v h => opAssign rfl h) rfl (fun _ => rfl) rfl rfl (by decide) ?_ ?_ ?_
  rintro pre x E W lp ⟨A1, c1, L, E1, k, m, rfl, hO, hk, hLl, hm, hT⟩ hlen hH
  have hVs := hH.vu hR.2.2.2.2.2.1 (by decide) hR.2.2.2.2.2.2
  have hV := partz_vu (hVs.head (m := q.length - 16) (by omega)) hA x.2
  have hoS : Off Aq q.length (bks (([bl g1 35 #[(.pointer (some ⟨g, 0, none⟩))]]) ++ (([bl g2 23 #[(.slice none 0 0)]]) ++ (([bl g3 25 #[(.int .i64 0)]]) ++ (([bl g4 23 #[(.slice A1 L.length c1)]]) ++ (([bl g 55 (cRn.enc ((A, 32, zk), (B, 7, y), (Ai, 5, yi), k, m))]) ++ (E1))))))) := hH.off 1 rfl hR.2.2.2.2.2.1 (by decide) hR.2.2.2.2.2.2
  have hpl := plz_le (z := z + 16) (n := q.length - 16) (i := x.1)
  have hx2 := x.2
  have hpl2 : plz (z + 16) (q.length - 16) x.1 ≤ q.length := by unfold plz; omega
  have hVK := hH.vu hR.2.2.1.1 (by decide) hR.2.2.1.2
  have hoK : Off A 32 (bks (([bl g1 35 #[(.pointer (some ⟨g, 0, none⟩))]]) ++ (([bl g2 23 #[(.slice none 0 0)]]) ++ (([bl g3 25 #[(.int .i64 0)]]) ++ (([bl g4 23 #[(.slice A1 L.length c1)]]) ++ (([bl g 55 (cRn.enc ((A, 32, zk), (B, 7, y), (Ai, 5, yi), k, m))]) ++ (E1))))))) := hH.off 1 rfl hR.2.2.1.1 (by decide) hR.2.2.1.2
  have hVB := hH.vu hR.2.2.2.1.1 (by decide) hR.2.2.2.1.2
  have hoB : Off B 7 (bks (([bl g1 35 #[(.pointer (some ⟨g, 0, none⟩))]]) ++ (([bl g2 23 #[(.slice none 0 0)]]) ++ (([bl g3 25 #[(.int .i64 0)]]) ++ (([bl g4 23 #[(.slice A1 L.length c1)]]) ++ (([bl g 55 (cRn.enc ((A, 32, zk), (B, 7, y), (Ai, 5, yi), k, m))]) ++ (E1))))))) := hH.off 1 rfl hR.2.2.2.1.1 (by decide) hR.2.2.2.1.2
  have hVI := hH.vu hR.2.2.2.2.1.1 (by decide) hR.2.2.2.2.1.2
  have hoI : Off Ai 5 (bks (([bl g1 35 #[(.pointer (some ⟨g, 0, none⟩))]]) ++ (([bl g2 23 #[(.slice none 0 0)]]) ++ (([bl g3 25 #[(.int .i64 0)]]) ++ (([bl g4 23 #[(.slice A1 L.length c1)]]) ++ (([bl g 55 (cRn.enc ((A, 32, zk), (B, 7, y), (Ai, 5, yi), k, m))]) ++ (E1))))))) := hH.off 1 rfl hR.2.2.2.2.1.1 (by decide) hR.2.2.2.2.1.2
  have hbx := hH.oldBlk hR.1 hb0
  have hbn := hH.freshR 1 rfl (blk_lt hR.1) hb0
  have hdb := hH.oldBlk hR.2.1 hd0
  have hdn := hH.freshR 1 rfl (blk_lt hR.2.1) hd0
  have hkN : k < 20000 := by rw [hk]; exact Nat.lt_of_lt_of_le hlen (Nat.le_trans hcn (by omega))
  have hple := hV.len
  replace hH : HH W (bks (([bl g1 35 #[(.pointer (some ⟨g, 0, none⟩))]]) ++ (([bl g2 23 #[(.slice none 0 0)]]) ++ (([bl g3 25 #[(.int .i64 0)]]) ++ (([bl g4 23 #[(.slice A1 L.length c1)]]) ++ (([bl g 55 (cRn.enc ((A, 32, zk), (B, 7, y), (Ai, 5, yi), k, m))]) ++ (E1))))))) [[bl g1 35 #[(.pointer (some ⟨g, 0, none⟩))]], [bl g2 23 #[(.slice none 0 0)]], [bl g3 25 #[(.int .i64 0)]], [bl g4 23 #[(.slice A1 L.length c1)]], [bl g 55 (cRn.enc ((A, 32, zk), (B, 7, y), (Ai, 5, yi), k, m))], E1] W := ((hH.has 1 rfl).start).cast (by simp)
  clear hH2 hcB1 hcB2 hB1
  obtain ⟨w0, rfl⟩ : ∃ u, u = W := ⟨_, rfl⟩
  show CXi lp _ _ _ ⟨45, []⟩ [(10, (.slice (some ⟨b0, off + (z + 16) * x.1, none⟩) (plz (z + 16) (q.length - 16) x.1) (plz (z + 16) (q.length - 16) x.1))), (23, (.func (.func 28) #[] #[(.pointer (some ⟨B_, 0, none⟩)), (.pointer (some ⟨(B_ + 1), 0, none⟩))])), (9, (.pointer (some ⟨g4, 0, none⟩))), (8, (.int .i64 ((((q.length - 16)) : Nat) : Int))), (7, (.pointer (some ⟨g3, 0, none⟩))), (6, (.pointer (some ⟨g2, 0, none⟩))), (3, (.pointer (some ⟨g1, 0, none⟩))), (1, (.slice Aq q.length yq))] _
  refine cxBlockI ?_
  refine zrI ?_
  refine zs (hH.q 0 rfl) .lc 202 ?_
  refine zv .mv 2 ?_
  refine ze 4 hH rfl (.call Tryz.func39 ((open_s g A zk K B y b Ai yi I k m (some ⟨b0, off + (z + 16) * x.1, none⟩) (plz (z + 16) (q.length - 16) x.1) (plz (z + 16) (q.length - 16) x.1) ((((q.take (q.length - 16)).drop ((z + 16) * x.1)).take (z + 16))) (by omega) (by omega) (by omega)))) (⟨(hH.oldBlk hbx hbn), (hH.oldBlk hdb hdn), ⟨(hH.vu hVK (by decide) hoK), (hH.off 4 rfl hVK (by decide) hoK)⟩, ⟨(hH.vu hVB (by decide) hoB), (hH.off 4 rfl hVB (by decide) hoB)⟩, ⟨(hH.vu hVI (by decide) hoI), (hH.off 4 rfl hVI (by decide) hoI)⟩, (hH.vu hV (by decide) (fun _ _ e _ => by cases e; exact hoS b0 off (hA (by omega)) (by omega))), (hH.off 4 rfl hV (by decide) (fun _ _ e _ => by cases e; exact hoS b0 off (hA (by omega)) (by omega)))⟩) 3 ?_
  clear hH
  rintro _ _ w ⟨s_, Es, rfl, rfl, hS_⟩ hH
  replace hH : HH w0 (bks (([bl g1 35 #[(.pointer (some ⟨g, 0, none⟩))]]) ++ (([bl g2 23 #[(.slice none 0 0)]]) ++ (([bl g3 25 #[(.int .i64 0)]]) ++ (([bl g4 23 #[(.slice A1 L.length c1)]]) ++ (([bl g 55 (cRn.enc ((A, 32, zk), (B, 7, y), (Ai, 5, yi), k, m))]) ++ (E1))))))) [[bl g1 35 #[(.pointer (some ⟨g, 0, none⟩))]], [bl g2 23 #[(.slice none 0 0)]], [bl g3 25 #[(.int .i64 0)]], [bl g4 23 #[(.slice A1 L.length c1)]], [bl g 55 (cRn.enc ((A, 32, zk), (B, 7, y), (Ai, 5, yi), (opI K (spN b k) I ((((q.take (q.length - 16)).drop ((z + 16) * x.1)).take (z + 16))) k), (m + (opR K (spN b k) I ((((q.take (q.length - 16)).drop ((z + 16) * x.1)).take (z + 16)))).length)))], Es, E1] w := hH.cast (by simp)
  obtain ⟨As, cs, rfl⟩ := hS_.slice
  refine zv .mv 1 ?_
  refine zv .ext 0 ?_
  refine zv .ext 2 ?_
  refine zv .mv 2 ?_
  refine zv .mv 2 ?_
  refine znI ?_
  refine cxSeqI ?_
  have hrl := opR_len (K := K) (N := spN b k) (A := I) (S := ((((q.take (q.length - 16)).drop ((z + 16) * x.1)).take (z + 16))))
  refine zrI ?_
  refine zv .mv 0 ?_
  refine zv (.ne ((opE K (spN b k) I ((((q.take (q.length - 16)).drop ((z + 16) * x.1)).take (z + 16)))) ≠ 0)) 1 ?_
  refine znI ?_
  refine zPI (fun hc5 => ?_) (fun hc5 => ?_)
  refine zrI ?_
  refine zv .mv 15 ?_
  refine ze0 1 hH rfl .sc trivial ?_
  clear hH
  rintro _ _ w rfl hH
  refine ze0 2 hH rfl .sc trivial ?_
  clear hH
  rintro _ _ w rfl hH
  refine znI ?_
  refine cxRetI ?_
  refine qxThenR ?_
  refine qxInR ?_
  replace hH : HH w0 (bks (([bl g1 35 #[(.pointer (some ⟨g, 0, none⟩))]]) ++ (([bl g2 23 #[(.slice none 0 0)]]) ++ (([bl g3 25 #[(.int .i64 0)]]) ++ (([bl g4 23 #[(.slice A1 L.length c1)]]) ++ (([bl g 55 (cRn.enc ((A, 32, zk), (B, 7, y), (Ai, 5, yi), k, m))]) ++ (E1))))))) [[bl g2 23 #[(.slice none 0 0)]], [bl g3 25 #[(.int .i64 ((((opE K (spN b k) I ((((q.take (q.length - 16)).drop ((z + 16) * x.1)).take (z + 16))))) : Nat) : Int))]]] w := hH.only [false, true, true, false, false, false, false]
  rw [opE_5 hc5] at hH
  exact fun _ _ => ⟨_, ⟨rfl, fun h => openret hq16 hk hT x.2 h (opE_1 hc5)⟩, by simpa [HH] using hH⟩
  refine cxSkipI ?_
  refine qxThenI ?_
  refine cxRegI ?_
  refine zs (hH.q 3 rfl) .lc 51 ?_
  refine zv .mv 2 ?_
  refine ze 6 hH rfl (fun _ hF => smAppT (C := cByte) (l := L) (m := (opR K (spN b k) I ((((q.take (q.length - 16)).drop ((z + 16) * x.1)).take (z + 16))))) (e := 5) (z := (.int .u8 0)) (by_ := 1) rfl (by kernel_rfl) (by kernel_rfl) rfl (ltb rfl) (hF.ev 1 rfl) hO (hF.ev 0 rfl) rfl hS_.nilA (by unfold maxLen; omega) (by omega)) (hS_.vuAt (hH.has 5 rfl)) 3 ?_
  clear hH
  rintro v8 E9 w ⟨hO10, _⟩ hH
  replace hO10 : OwnT cByte 5 v8 (L ++ (opR K (spN b k) I ((((q.take (q.length - 16)).drop ((z + 16) * x.1)).take (z + 16))))) E9 := hO10
  obtain ⟨A6, c7, rfl⟩ := hO10.slice
  refine ze0 3 hH rfl .sc trivial ?_
  clear hH
  rintro _ _ w rfl hH
  refine pxEndI ?_
  refine qxInN ?_
  replace hH : HH w0 (bks (([bl g1 35 #[(.pointer (some ⟨g, 0, none⟩))]]) ++ (([bl g2 23 #[(.slice none 0 0)]]) ++ (([bl g3 25 #[(.int .i64 0)]]) ++ (([bl g4 23 #[(.slice A1 L.length c1)]]) ++ (([bl g 55 (cRn.enc ((A, 32, zk), (B, 7, y), (Ai, 5, yi), k, m))]) ++ (E1))))))) [[bl g1 35 #[(.pointer (some ⟨g, 0, none⟩))]], [bl g2 23 #[(.slice none 0 0)]], [bl g3 25 #[(.int .i64 0)]], [bl g4 23 #[(.slice A6 ((L ++ (opR K (spN b k) I ((((q.take (q.length - 16)).drop ((z + 16) * x.1)).take (z + 16))))).length) c7)]], [bl g 55 (cRn.enc ((A, 32, zk), (B, 7, y), (Ai, 5, yi), (opI K (spN b k) I ((((q.take (q.length - 16)).drop ((z + 16) * x.1)).take (z + 16))) k), (m + (opR K (spN b k) I ((((q.take (q.length - 16)).drop ((z + 16) * x.1)).take (z + 16)))).length)))], E9] w := hH.only [true, true, true, true, true, false, true]
  obtain ⟨hkk, hrr, hii⟩ := opE_0 hc5 k
  rw [hii] at hH
  exact fun _ _ => ⟨_, ⟨A6, c7, (L ++ (opR K (spN b k) I ((((q.take (q.length - 16)).drop ((z + 16) * x.1)).take (z + 16))))), E9, k + 1, m + (opR K (spN b k) I ((((q.take (q.length - 16)).drop ((z + 16) * x.1)).take (z + 16)))).length, rfl, hO10, by rw [List.length_append, List.length_singleton, hk], by rw [List.length_append]; omega, by rw [List.length_append, hm], fun h => by rw [hrr]; exact opennxt hq16 hk hT x.2 (by rw [List.length_append, List.length_singleton, ← hk]; exact h) hkk⟩, by simpa [HH] using hH⟩
  rintro xs E D w hxs ⟨A1, c1, L, E1, k, m, rfl, hO, hk, hLl, hm, hT⟩ hH
  replace hH : HH w0 (bks ([bl g 55 (cRn.enc ((A, 32, zk), (B, 7, y), (Ai, 5, yi), 0, 0))])) [[bl B_ 23 #[.slice Aq (q.length - 16) yq], bl (B_ + 1) 3 #[.int .i64 (((z + 16) : Nat) : Int)]], [bl g1 35 #[(.pointer (some ⟨g, 0, none⟩))]], [bl g2 23 #[(.slice none 0 0)]], [bl g3 25 #[(.int .i64 0)]], [bl g4 23 #[(.slice A1 L.length c1)]], [bl g 55 (cRn.enc ((A, 32, zk), (B, 7, y), (Ai, 5, yi), k, m))], E1, [(D, .deferred (some []))]] w := hH.cast (by simp)
  clear hH2 hcB1 hcB2 hB1
  have hkN : k = (q.length - 16 + (z + 16 - 1)) / (z + 16) := by have h := congrArg List.length hxs; rw [List.length_map, List.length_range, ← hk] at h; exact h
  obtain ⟨f, hf, hW⟩ := hT (by rw [hkN]; exact hxs)
  rw [show opA (z + 16) (q.length - 16) k = q.length - 16 from Nat.min_eq_right (by rw [hkN]; exact openall (by omega))] at hW
  have hq16l : (q.drop (q.length - 16)).length = 16 := by rw [List.length_drop]; omega
  rw [spO_end (by omega)] at hW
  have hk2 : k ≤ 20000 := by rw [hkN]; exact Nat.le_trans hcn (by omega)
  have hel := spE_len K b I k m
  refine qxInN ?_
  refine qxThen ?_
  refine cxSeq ?_
  refine zx ?_
  replace hH := hH.drew
  refine rld 0 (hH.q 1 rfl) .lc 33 ?_
  refine rv 2 .mv 32 ?_
  refine rv 3 .mv 8 ?_
  refine rv 4 (v := (.slice (cutA Aq yq (q.length - 16) 1) (q.length - (q.length - 16)) (yq - (q.length - 16)))) (fun _ _ hF => opCutL (k := (q.length - 16)) (e := 5) (sz := 1) rfl (by kernel_rfl) (by kernel_rfl) (hF.ev 1 rfl) (hF.ev 0 rfl) rfl (by omega)) 3 ?_
  refine rx1k 1 ?_
  refine rm 1 hH (.call Tryz.func16 ((end_s g A zk K B y b Ai yi I k m))) (⟨(hH.blk 5 rfl), (hH.oldBlk hR.1 hb0), (hH.oldBlk hR.2.1 hd0), (hH.vu hR.2.2.1.1 (ltb rfl) hR.2.2.1.2), (hH.vu hR.2.2.2.1.1 (ltb rfl) hR.2.2.2.1.2), (hH.vu hR.2.2.2.2.1.1 (ltb rfl) hR.2.2.2.2.1.2)⟩) 2 (pgo [] (.nil _ [])) ?_
  clear hH
  rintro v15 E11 w hO12 hH
  obtain ⟨A13, c14, rfl⟩ := hO12.slice
  refine ⟨pnil, ?_⟩
  refine rx1k 5 (rpc 5 Tryz.func40 (slEq_s A13 ((spE K b I k m).length) c14 (spE K b I k m) (by omega) (cutA Aq yq (q.length - 16) 1) (q.length - (q.length - 16)) (yq - (q.length - 16)) (q.drop (q.length - 16))) (⟨(hO12.vuAt (hH.has 8 rfl)), ((hH.vu hR.2.2.2.2.2.1 (ltb rfl) hR.2.2.2.2.2.2).from (k := (q.length - 16)) (by omega))⟩) hH 3 (.nil _ []) ?_)
  clear hH
  intro w hH
  refine ⟨pnil, ?_⟩
  refine rv 6 (v := (.bool (decide (¬ ((spE K b I k m) = (q.drop (q.length - 16))))))) (fun _ _ hF => opNot rfl (hF.ev 0 rfl) decide_not.symm) 1 ?_
  refine rn ?_
  refine zP (fun hc17 => ?_) (fun hc17 => ?_)
  refine zr ?_
  refine ze0 2 hH rfl .sc trivial ?_
  clear hH
  rintro _ _ w rfl hH
  refine ze0 3 hH rfl .sc trivial ?_
  clear hH
  rintro _ _ w rfl hH
  refine zn ?_
  refine cxRet ?_
  refine qxThenR ?_
  refine qxDRet1CC 3 2 7 2 3 hH rfl rfl rfl rfl rfl rfl (by kernel_rfl) (by kernel_rfl) (fun w hH => ?_)
  have hn : (spO K b I z q.length 0 q []) = none := by rw [← hW]; unfold spL; exact if_neg fun g => hc17 (by unfold spE; rw [hm]; exact (ocS_16 hq16l).1 g)
  exact ⟨_, _, rfl, ⟨_, by rw [hn]; rfl, by rw [hn]; exact OwnT.nil _ _⟩, hH.out [false, false, false, false, false, false, false, false, false]⟩
  refine cxSkip ?_
  refine qxThen ?_
  refine zr ?_
  refine zs (hH.q 4 rfl) .lc 3 ?_
  refine ze0 2 hH rfl .sc trivial ?_
  clear hH
  rintro _ _ w rfl hH
  refine ze0 3 hH rfl .sc trivial ?_
  clear hH
  rintro _ _ w rfl hH
  refine zn ?_
  refine cxRet ?_
  refine qxDRet1CC 2 1 7 2 3 hH rfl rfl rfl rfl rfl rfl (by kernel_rfl) (by kernel_rfl) (fun w hH => ?_)
  have hn : (spO K b I z q.length 0 q []) = some L := by rw [← hW]; unfold spL; exact if_pos ((ocS_16 hq16l).2 (by have h := Decidable.not_not.1 hc17; unfold spE at h; rw [hm] at h; exact h))
  exact ⟨_, _, rfl, ⟨_, by rw [hn]; rfl, by rw [hn]; exact hO⟩, hH.out1 [false, false, false, false, false, false, true, false, false] rfl⟩
  rintro xs E D w hxs ⟨rfl, hW⟩ hH
  replace hH : HH w0 (bks ([bl g 55 (cRn.enc ((A, 32, zk), (B, 7, y), (Ai, 5, yi), 0, 0))])) [[bl B_ 23 #[.slice Aq (q.length - 16) yq], bl (B_ + 1) 3 #[.int .i64 (((z + 16) : Nat) : Int)]], [bl g2 23 #[(.slice none 0 0)]], [bl g3 25 #[(.int .i64 5)]], [(D, .deferred (some []))]] w := hH.cast (by simp)
  clear hH2 hcB1 hcB2 hB1
  replace hW := hW hxs
  refine qxInR ?_
  refine qxThenR ?_
  refine qxDRet1CC 4 3 3 1 2 hH rfl rfl rfl rfl rfl rfl (by kernel_rfl) (by kernel_rfl) (fun w hH => ?_)
  exact ⟨_, _, rfl, ⟨_, by rw [hW]; rfl, by rw [hW]; exact OwnT.nil _ _⟩, hH.out [false, false, false, false]⟩
end Go.Proofs.YtfloiekaiiapnaaGreatDoor

namespace Go.Proofs.YtfloiekaiiapnaaGreatDoor
open Go Go.RowKit
set_option maxRecDepth 100000

theorem openAll_c (g : Nat) (A : Option Addr) (zk : Nat) (K : List UInt8) (B : Option Addr) (y : Nat) (b : List UInt8) (Ai : Option Addr) (yi : Nat) (I : List UInt8) (z : Nat) (hz1 : 1 ≤ z) (hz2 : z ≤ 65536) (Aq : Option Addr) (n yq : Nat) (q : List UInt8) (hn : n ≤ 20000) : Does Tryz.prog 23 #[(.pointer (some ⟨g, 0, none⟩)), (.slice Aq n yq), (.int .i64 (((z) : Nat) : Int))] [bl g 55 (cRn.enc ((A, 32, zk), (B, 7, y), (Ai, 5, yi), 0, 0))] (fun w => w.heap[2]? = some (.cells ((cArr 256).enc boxF) 105 (0, 0)) ∧ w.heap[4]? = some (.cells ((cArr 64).enc dbF) 104 (0, 0)) ∧ (Vu cByte w A 32 zk K ∧ Off A 32 [g]) ∧ (Vu cByte w B 7 y b ∧ Off B 7 [g]) ∧ (Vu cByte w Ai 5 yi I ∧ Off Ai 5 [g]) ∧ Vu cByte w Aq n yq q ∧ Off Aq n [g]) (fun v E' => ∃ o, v = .tuple #[o, .int .i64 (((if (spO K b I z q.length 0 q []).isSome then 0 else 5) : Nat) : Int)] ∧ OwnT cByte 5 o ((spO K b I z q.length 0 q []).getD []) E') := fun w hE hR => by
  obtain rfl := hR.2.2.2.2.2.1.len
  by_cases h : q.length < 16
  · exact openAll_few g A zk K B y b Ai yi I z Aq yq q hn h w hE hR
  · exact openAll_s g A zk K B y b Ai yi I z hz1 hz2 Aq yq q hn (by omega) w hE hR
theorem Vu.cutOff {w : World} {A : Option Addr} {n m c k sz : Nat} {R : List Nat} {l : List UInt8} (hV : Vu cByte w A n c l) (h : Off A n R) (hn : 0 < n) : Off (cutA A c k sz) m R := fun b off e _ => by
  obtain ⟨g, o, rfl, _⟩ := hV.open hn
  unfold cutA at e
  split at e
  · exact h b off e hn
  · rw [Option.map_some, Addr.add_mid] at e
    injection e with e
    injection e with e1 e2
    subst e1
    exact h g o rfl hn
theorem spA_bad {S B : List UInt8} (h : hdE B ≠ 0) : spA S B = hdE B ∧ spZ S B = [] := by
  by_cases h1 : B.length < 36 ∨ (B.getD 0 0).toNat ≠ 2
  · have e := spA_1 (S := S) h1
    exact ⟨by rw [e, (hdE_2 h1).1], spZ_bad e (by decide)⟩
  · by_cases h2 : (B.getD 1 0).toNat ≠ 9 ∨ (B.getD 2 0).toNat ≠ 2 ∨ 10 < (B.getD 3 0).toNat
    · have e := spA_2 (S := S) h1 h2
      exact ⟨by rw [e, (hdE_10 h1 h2).1], spZ_bad e (by decide)⟩
    · exact absurd (hdE_0 h1 h2).1 h
theorem hd_ok {B : List UInt8} (h : hdE B = 0) : hdV B = (B.getD 3 0, cutF B 4) ∧ 36 ≤ B.length ∧ (B.getD 3 0).toNat ≤ 10 := by
  by_cases h1 : B.length < 36 ∨ (B.getD 0 0).toNat ≠ 2
  · rw [(hdE_2 h1).1] at h; cases h
  · by_cases h2 : (B.getD 1 0).toNat ≠ 9 ∨ (B.getD 2 0).toNat ≠ 2 ∨ 10 < (B.getD 3 0).toNat
    · rw [(hdE_10 h1 h2).1] at h; cases h
    · exact ⟨(hdE_0 h1 h2).2, by omega, by omega⟩
theorem spA_good {S B : List UInt8} {W : Option (List UInt8)} (h : hdE B = 0) (hW : spOpen S B = W) : spA S B = (if W.isSome then 0 else 5) ∧ spZ S B = W.getD [] := by
  by_cases h1 : B.length < 36 ∨ (B.getD 0 0).toNat ≠ 2
  · rw [(hdE_2 h1).1] at h; cases h
  · by_cases h2 : (B.getD 1 0).toNat ≠ 9 ∨ (B.getD 2 0).toNat ≠ 2 ∨ 10 < (B.getD 3 0).toNat
    · rw [(hdE_10 h1 h2).1] at h; cases h
    · cases W with
      | none => have e := spA_5 h1 h2 hW; exact ⟨e, spZ_bad e (by decide)⟩
      | some O => exact spA_0 h1 h2 hW

set_option maxHeartbeats 8000000 in
theorem opens_s (s : Nat → UInt8) (A : Option Addr) (y : Nat) (b : List UInt8) (hb : b.length ≤ 20000) : Does Tryz.prog 9 #[((cArr 32).val s), (.slice A b.length y)] [] (fun w => w.heap[1]? = some (.cells ((cWs 64).enc K32) 125 (0, 0)) ∧ w.heap[0]? = some (.cells ((cWs 8).enc H32) 115 (0, 0)) ∧ w.heap[2]? = some (.cells ((cArr 256).enc boxF) 105 (0, 0)) ∧ w.heap[4]? = some (.cells ((cArr 64).enc dbF) 104 (0, 0)) ∧ Vu cByte w A b.length y b) (fun v E' => ∃ o, v = .tuple #[o, .int .i64 ((spA (lst 32 s) b : Nat) : Int)] ∧ OwnT cByte 5 o (spZ (lst 32 s) b) E') := by
  refine does_of (fn := Tryz.f9) Tryz.func9 rfl Tryz.ntmps9 (Nat.le_of_ble_eq_true rfl) rfl ?_
  intro w0 hH hR
  replace hH : HH w0 [] [] w0 := hH.only [false]
  have hcp := hR.2.2.2.2.cap
  refine zr ?_
  refine zm hH (.bx (cArr 32) s) trivial 1 ?_
  clear hH
  rintro _ _ w ⟨g1, rfl, rfl⟩ hH
  refine zv .mv 0 ?_
  refine zv .mv 1 ?_
  refine zn ?_
  refine zr ?_
  refine zv .mv 1 ?_
  refine zc Tryz.func22 (readHead_s A b.length y b) (hH.vu hR.2.2.2.2 (by decide) (Off.nil _ _)) hH 1 ?_
  clear hH
  intro w hH
  refine zv .mv 1 ?_
  refine zv .ext 0 ?_
  refine zv .ext 2 ?_
  refine zm hH (.al cHd (0, fun _ => 0)) trivial 0 ?_
  clear hH
  rintro _ _ w ⟨g2, rfl, rfl⟩ hH
  refine ze0 1 hH rfl (.sw cHd (0, fun _ => 0) (hdV b)) trivial ?_
  clear hH
  rintro _ _ w rfl hH
  refine zv .mv 6 ?_
  refine zn ?_
  refine cxSeq ?_
  refine zr ?_
  refine zv .mv 0 ?_
  refine zv (.ne ((hdE b) ≠ 0)) 1 ?_
  refine zn ?_
  refine zP (fun hc3 => ?_) (fun hc3 => ?_)
  refine zr ?_
  refine zv .mv 31 ?_
  refine zv .mv 0 ?_
  refine zv .mv 2 ?_
  refine zn ?_
  refine cxRet ?_
  refine qxThenR ?_
  refine qxRet2 1 0 rfl rfl rfl ?_
  obtain ⟨hA, hZ⟩ := spA_bad (S := lst 32 s) hc3
  exact ⟨_, _, rfl, ⟨_, by rw [hA]; rfl, by rw [hZ]; exact OwnT.nil _ _⟩, hH.out [false, false]⟩
  refine cxSkip ?_
  refine qxThen ?_
  have he0 : hdE b = 0 := by omega
  obtain ⟨hv, h36, h10⟩ := hd_ok he0
  obtain ⟨x0, hx0⟩ : ∃ q, q = b.getD 3 0 := ⟨_, rfl⟩
  rw [← hx0] at hv h10
  rw [hv] at hH
  obtain ⟨z, hz⟩ : ∃ z, z = 64 * 2 ^ x0.toNat := ⟨_, rfl⟩
  have hzz := z_le h10
  rw [← hz] at hzz
  obtain ⟨hz1, hz2⟩ := hzz
  have hzv : Value.int .i64 ((64 * 2 ^ x0.toNat : Nat) : Int) = .int .i64 ((z : Nat) : Int) := by rw [← hz]
  obtain ⟨q, hqq⟩ : ∃ q, q = b.drop 36 := ⟨_, rfl⟩
  refine zx ?_
  replace hH := hH.drew
  refine rld 0 (hH.q 0 rfl) (.ld (cArr 32) s (fun _ hS => (holds_blk0 hS))) 11 ?_
  refine rld 1 (hH.q 1 rfl) (.ld cHd (x0, cutF b 4) (fun _ hS => (holds_blk0 hS))) 0 ?_
  refine rv 3 .mv 8 ?_
  refine rv 4 (v := (.slice (cutA A y 36 1) (b.length - 36) (y - 36))) (fun _ _ hF => opCutL (k := 36) (e := 5) (sz := 1) rfl (by kernel_rfl) (by kernel_rfl) (hF.ev 0 rfl) rfl rfl (by omega)) 1 ?_
  refine rld 5 (hH.q 1 rfl) (.ld cHd (x0, cutF b 4) (fun _ hS => (holds_blk0 hS))) 8 ?_
  refine rx1k 2 ?_
  refine rm 2 hH (.call Tryz.func11 ((begin_s s x0 (cutF b 4)))) (⟨(hH.oldBlk hR.1 (by simp)), (hH.oldBlk hR.2.1 (by simp))⟩) 12 (.keep (pgo [] (pgo [] (.nil _ [])))) ?_
  clear hH
  rintro _ _ w ⟨gr, Bk, dk, Ai, yi, Ei, Ek, rfl, rfl, hK, hI⟩ hH
  replace hH : HH w0 [] [[bl g1 22 ((cArr 32).enc s)], [bl g2 34 (cHd.enc (x0, cutF b 4))], Ei, Ek, [bl gr 55 (cRn.enc ((Bk, 32, dk), (cutA Bk dk 32 1, 7, dk - 32), (Ai, 5, yi), 0, 0))]] w := hH.cast (by simp)
  obtain ⟨Kb, hKb⟩ : ∃ q, q = spD (lst 32 s) (lst 32 (cutF b 4)) x0.toNat := ⟨_, rfl⟩
  obtain ⟨I, hIn⟩ : ∃ q, q = spI x0.toNat := ⟨_, rfl⟩
  rw [← hKb] at hK
  rw [← hIn] at hI
  have hKl : Kb.length = 39 := by rw [hKb]; exact spD_len _ _ _
  have hIl : I.length = 5 := by rw [hIn]; rfl
  have hdk := hK.capLe
  refine ⟨pcons (hH.blk 1 rfl) pnil, ?_⟩
  refine rx1k 6 (rpc 6 Tryz.func14 ((chunk_c x0 (cutF b 4) (by omega)).as hzv) trivial hH 2 (pgo [] (.nil _ [])) ?_)
  clear hH
  intro w hH
  refine ⟨pnil, ?_⟩
  refine rx1k 7 ?_
  refine re 7 4 hH rfl (.call Tryz.func23 ((openAll_c gr Bk dk (Kb.take 32) (cutA Bk dk 32 1) (dk - 32) (Kb.drop 32) Ai yi I z (by omega) (by omega) (cutA A y 36 1) (b.length - 36) (y - 36) q (by omega)))) (⟨(hH.oldBlk hR.2.2.1 (by simp)), (hH.oldBlk hR.2.2.2.1 (by simp)), ⟨((hK.vuAt (hH.has 3 rfl)).head (m := 32) (by omega)), (hH.off3 4 3 rfl rfl rfl hK).part (by decide)⟩, ⟨((hK.vuAt (hH.has 3 rfl)).from (k := 32) (by omega)), hK.cutOff (hH.off3 4 3 rfl rfl rfl hK) (by decide)⟩, ⟨(hI.vuAt (hH.has 2 rfl)), (hH.off3 4 2 rfl rfl rfl hI).part (by omega)⟩, (by rw [hqq]; exact ((hH.vu hR.2.2.2.2 (by decide) (Off.nil _ _)).from (k := 36) (by omega))), hR.2.2.2.2.cutOff (hH.off 4 rfl hR.2.2.2.2 (by decide) (Off.nil _ _)) (by omega)⟩) 7 (.nil _ []) ?_
  clear hH
  rintro _ Eo w ⟨so, rfl, hOo⟩ hH
  obtain ⟨Ao, co, rfl⟩ := hOo.slice
  refine ⟨pnil, ?_⟩
  refine rv 8 .ext 0 ?_
  refine rv 9 .ext 2 ?_
  refine rv 10 .mv 2 ?_
  refine rv 11 .mv 2 ?_
  refine rn ?_
  refine cxRet ?_
  refine qxRet2 1 0 rfl rfl rfl ?_
  have hWW : spOpen (lst 32 s) b = (spO (Kb.take 32) (Kb.drop 32) I z q.length 0 q []) := by
    unfold spOpen spKey spBeg
    rw [← hx0, show 2 ^ (6 + x0.toNat) = z from by rw [hz, Nat.pow_add], ← lst_cutk (by omega), ← hKb, ← hIn, hqq, List.length_drop]
  obtain ⟨hA, hZ⟩ := spA_good he0 hWW
  exact ⟨_, _, rfl, ⟨_, by rw [hA]; rfl, by rw [hZ]; exact hOo⟩, hH.out1 [false, false, false, false, true] rfl⟩
end Go.Proofs.YtfloiekaiiapnaaGreatDoor

namespace Go.Proofs.YtfloiekaiiapnaaGreatDoor
open Go Go.RowKit
set_option maxRecDepth 100000

set_option maxHeartbeats 8000000 in
theorem seals_l (s t : Nat → UInt8) (c : Nat) (hc : c ≤ 10) (A : Option Addr) (n y : Nat) (hn : 10000 < n) : Does Tryz.prog 7 #[((cArr 32).val s), ((cArr 32).val t), (.int .i64 (((c) : Nat) : Int)), (.slice A n y)] [] (fun _ => True) (fun v E' => v = .tuple #[.slice none 0 0, .int .i64 6] ∧ E' = []) := by
  refine does_ofM (fn := Tryz.f7) Tryz.func7 rfl Tryz.ntmps7 (Nat.le_of_ble_eq_true rfl) rfl ?_
  intro w0 hH hR
  replace hH : HH w0 [] [] w0 := hH.only [false]
  refine zr ?_
  refine zm hH (.bx (cArr 32) s) trivial 1 ?_
  clear hH
  rintro _ _ w ⟨g1, rfl, rfl⟩ hH
  refine zm hH (.bx (cArr 32) t) trivial 2 ?_
  clear hH
  rintro _ _ w ⟨g2, rfl, rfl⟩ hH
  refine zv .mv 0 ?_
  refine zv .mv 1 ?_
  refine zn ?_
  refine cxSeq ?_
  refine zr ?_
  refine zv .mv 1 ?_
  refine zv (v := (.bool false)) (fun _ _ hF => opLss rfl (hF.ev 0 rfl) rfl (decide_eq_false (by omega))) 1 ?_
  refine zv .mv 1 ?_
  refine pxV (v := (.int .i64 (((c) : Nat) : Int))) (fun _ _ hF => opMove rfl (hF.ev 3 rfl)) rfl (gOn 0 rfl rfl rfl (by decide)) (kA rfl) (by decide) ?_
  refine pxV (v := (.bool false)) (fun _ _ hF => opGtr rfl (hF.ev 0 rfl) rfl (decide_eq_false (by omega))) rfl (gOn 1 rfl rfl rfl (by decide)) (kM [false, true, true, true, true, true] rfl rfl) (by decide) ?_
  refine zv (v := (.bool false)) (fun _ _ hF => opPickF rfl (hF.ev 1 rfl) (hF.ev 0 rfl)) 3 ?_
  refine zn ?_
  refine zF ?_
  refine cxSkip ?_
  refine qxThen ?_
  refine cxSeq ?_
  refine zr ?_
  refine zv .mv 1 ?_
  refine zv .len 1 ?_
  refine zv (v := (.bool true)) (fun _ _ hF => opGtr rfl (hF.ev 0 rfl) rfl (decide_eq_true (by omega))) 1 ?_
  refine zn ?_
  refine zT ?_
  refine zr ?_
  refine zv .mv 31 ?_
  refine zv .mv 0 ?_
  refine zn ?_
  refine cxRet ?_
  refine qxThenR ?_
  refine qxMRet2 1 0 rfl rfl rfl ?_
  exact ⟨_, _, rfl, ⟨rfl, rfl⟩, hH.out [false, false]⟩

set_option maxHeartbeats 8000000 in
theorem seals_e (s t : Nat → UInt8) (c : Int) (hc : c < 0) (A : Option Addr) (n y : Nat) : Does Tryz.prog 7 #[((cArr 32).val s), ((cArr 32).val t), (.int .i64 (c)), (.slice A n y)] [] (fun _ => True) (fun v E' => v = .tuple #[.slice none 0 0, .int .i64 1] ∧ E' = []) := by
  refine does_ofM (fn := Tryz.f7) Tryz.func7 rfl Tryz.ntmps7 (Nat.le_of_ble_eq_true rfl) rfl ?_
  intro w0 hH hR
  replace hH : HH w0 [] [] w0 := hH.only [false]
  refine zr ?_
  refine zm hH (.bx (cArr 32) s) trivial 1 ?_
  clear hH
  rintro _ _ w ⟨g1, rfl, rfl⟩ hH
  refine zm hH (.bx (cArr 32) t) trivial 2 ?_
  clear hH
  rintro _ _ w ⟨g2, rfl, rfl⟩ hH
  refine zv .mv 0 ?_
  refine zv .mv 1 ?_
  refine zn ?_
  refine cxSeq ?_
  refine zr ?_
  refine zv .mv 1 ?_
  refine zv (v := (.bool true)) (fun _ _ hF => opLss rfl (hF.ev 0 rfl) rfl (decide_eq_true (by omega))) 1 ?_
  refine zv .mv 1 ?_
  refine pxU rfl (gOff 0 rfl rfl rfl (by decide)) (kA rfl) (by decide) ?_
  refine pxU rfl (gOff 0 rfl rfl rfl (by decide)) (kA rfl) (by decide) ?_
  refine zv (v := (.bool true)) (fun _ _ hF => opPickT rfl (hF.ev 0 rfl) rfl) 1 ?_
  refine zn ?_
  refine zT ?_
  refine zr ?_
  refine zv .mv 31 ?_
  refine zv .mv 0 ?_
  refine zn ?_
  refine cxRet ?_
  refine qxThenR ?_
  refine qxMRet2 1 0 rfl rfl rfl ?_
  exact ⟨_, _, rfl, ⟨rfl, rfl⟩, hH.out [false, false]⟩

set_option maxHeartbeats 8000000 in
theorem seals_g (s t : Nat → UInt8) (c : Int) (hc : 0 ≤ c ∧ 10 < c) (A : Option Addr) (n y : Nat) : Does Tryz.prog 7 #[((cArr 32).val s), ((cArr 32).val t), (.int .i64 (c)), (.slice A n y)] [] (fun _ => True) (fun v E' => v = .tuple #[.slice none 0 0, .int .i64 1] ∧ E' = []) := by
  refine does_ofM (fn := Tryz.f7) Tryz.func7 rfl Tryz.ntmps7 (Nat.le_of_ble_eq_true rfl) rfl ?_
  intro w0 hH hR
  replace hH : HH w0 [] [] w0 := hH.only [false]
  refine zr ?_
  refine zm hH (.bx (cArr 32) s) trivial 1 ?_
  clear hH
  rintro _ _ w ⟨g1, rfl, rfl⟩ hH
  refine zm hH (.bx (cArr 32) t) trivial 2 ?_
  clear hH
  rintro _ _ w ⟨g2, rfl, rfl⟩ hH
  refine zv .mv 0 ?_
  refine zv .mv 1 ?_
  refine zn ?_
  refine cxSeq ?_
  refine zr ?_
  refine zv .mv 1 ?_
  refine zv (v := (.bool false)) (fun _ _ hF => opLss rfl (hF.ev 0 rfl) rfl (decide_eq_false (by omega))) 1 ?_
  refine zv .mv 1 ?_
  refine pxV (v := (.int .i64 (c))) (fun _ _ hF => opMove rfl (hF.ev 3 rfl)) rfl (gOn 0 rfl rfl rfl (by decide)) (kA rfl) (by decide) ?_
  refine pxV (v := (.bool true)) (fun _ _ hF => opGtr rfl (hF.ev 0 rfl) rfl (decide_eq_true (by omega))) rfl (gOn 1 rfl rfl rfl (by decide)) (kM [false, true, true, true, true, true] rfl rfl) (by decide) ?_
  refine zv (v := (.bool true)) (fun _ _ hF => opPickF rfl (hF.ev 1 rfl) (hF.ev 0 rfl)) 3 ?_
  refine zn ?_
  refine zT ?_
  refine zr ?_
  refine zv .mv 31 ?_
  refine zv .mv 0 ?_
  refine zn ?_
  refine cxRet ?_
  refine qxThenR ?_
  refine qxMRet2 1 0 rfl rfl rfl ?_
  exact ⟨_, _, rfl, ⟨rfl, rfl⟩, hH.out [false, false]⟩

/-- What sealing answers, whatever c and the bytes. -/
def slE (c : Int) (p : List UInt8) : Nat := if c < 0 ∨ 10 < c then 1 else if 10000 < p.length then 6 else 0
def slB (s t : Nat → UInt8) (c : Int) (p : List UInt8) : List UInt8 := if slE c p = 0 then spBody (lst 32 s) (lst 32 t) c.toNat p else []
theorem slE_1 {c : Int} {p : List UInt8} (h : c < 0 ∨ 10 < c) : slE c p = 1 := if_pos h
theorem slE_6 {c : Int} {p : List UInt8} (h : ¬ (c < 0 ∨ 10 < c)) (h2 : ¬ p.length ≤ 10000) : slE c p = 6 := by unfold slE; rw [if_neg h, if_pos (by omega)]
theorem slE_0 {c : Int} {p : List UInt8} (h : ¬ (c < 0 ∨ 10 < c)) (h2 : p.length ≤ 10000) : slE c p = 0 := by unfold slE; rw [if_neg h, if_neg (by omega)]
theorem slE_ok {c : Int} {p : List UInt8} (h : slE c p = 0) : ¬ (c < 0 ∨ 10 < c) ∧ p.length ≤ 10000 := by
  by_cases h1 : c < 0 ∨ 10 < c
  · rw [slE_1 h1] at h; cases h
  · by_cases h2 : p.length ≤ 10000
    · exact ⟨h1, h2⟩
    · rw [slE_6 h1 h2] at h; cases h
theorem slB_no {s t : Nat → UInt8} {c : Int} {p : List UInt8} (h : slE c p ≠ 0) : slB s t c p = [] := if_neg h
theorem slB_ok {s t : Nat → UInt8} {k : Nat} {p : List UInt8} (h : slE (k : Int) p = 0) : slB s t (k : Int) p = spBody (lst 32 s) (lst 32 t) k p := if_pos h

theorem sealN_c (s t : Nat → UInt8) (c : Int) (A : Option Addr) (n y : Nat) (p : List UInt8) : Does Tryz.prog 7 #[((cArr 32).val s), ((cArr 32).val t), (.int .i64 c), (.slice A n y)] [] (fun w => w.heap[1]? = some (.cells ((cWs 64).enc K32) 125 (0, 0)) ∧ w.heap[0]? = some (.cells ((cWs 8).enc H32) 115 (0, 0)) ∧ w.heap[2]? = some (.cells ((cArr 256).enc boxF) 105 (0, 0)) ∧ w.heap[4]? = some (.cells ((cArr 64).enc dbF) 104 (0, 0)) ∧ Vu cByte w A n y p) (fun v E' => ∃ b, v = .tuple #[b, .int .i64 ((slE c p : Nat) : Int)] ∧ OwnT cByte 5 b (slB s t c p) E') := fun w hE hR => by
  obtain rfl := hR.2.2.2.2.len
  by_cases hc : c < 0 ∨ 10 < c
  · rw [slE_1 hc, slB_no (by rw [slE_1 hc]; decide)]
    rcases (show c < 0 ∨ (0 ≤ c ∧ 10 < c) by omega) with hc1 | hc1
    · refine (seals_e s t c hc1 A p.length y w hE trivial).mono ?_
      rintro e w' ⟨v, E', he, ⟨rfl, rfl⟩, hh⟩
      exact ⟨_, _, he, ⟨_, rfl, OwnT.nil _ _⟩, hh⟩
    · refine (seals_g s t c hc1 A p.length y w hE trivial).mono ?_
      rintro e w' ⟨v, E', he, ⟨rfl, rfl⟩, hh⟩
      exact ⟨_, _, he, ⟨_, rfl, OwnT.nil _ _⟩, hh⟩
  · obtain ⟨k, rfl⟩ : ∃ k : Nat, c = (k : Int) := ⟨c.toNat, by omega⟩
    by_cases hp : p.length ≤ 10000
    · have e0 : slE (k : Int) p = 0 := slE_0 hc hp
      rw [e0, slB_ok e0]
      exact seals_s s t k (by omega) A y p hp w hE hR
    · rw [slE_6 hc hp, slB_no (by rw [slE_6 hc hp]; decide)]
      refine (seals_l s t k (by omega) A p.length y (by omega) w hE trivial).mono ?_
      rintro e w' ⟨v, E', he, ⟨rfl, rfl⟩, hh⟩
      exact ⟨_, _, he, ⟨_, rfl, OwnT.nil _ _⟩, hh⟩

theorem rsealN_c (s t : Nat → UInt8) (c : Int) (A : Option Addr) (n y : Nat) (p : List UInt8) : Does Tryz.prog 8 #[((cArr 32).val s), ((cArr 32).val t), (.int .i64 c), (.slice A n y)] [] (fun w => Vu cByte w A n y p) (fun v E' => ∃ b, v = .tuple #[b, .int .i64 ((slE c p : Nat) : Int)] ∧ OwnT cByte 5 b (slB s t c p) E') := fun w hE hR => by
  obtain rfl := hR.len
  by_cases hc : c < 0 ∨ 10 < c
  · rw [slE_1 hc, slB_no (by rw [slE_1 hc]; decide)]
    refine (rsealb_e s t c hc A p.length y w hE trivial).mono ?_
    rintro e w' ⟨v, E', he, ⟨rfl, rfl⟩, hh⟩
    exact ⟨_, _, he, ⟨_, rfl, OwnT.nil _ _⟩, hh⟩
  · obtain ⟨k, rfl⟩ : ∃ k : Nat, c = (k : Int) := ⟨c.toNat, by omega⟩
    by_cases hp : p.length ≤ 10000
    · have e0 : slE (k : Int) p = 0 := slE_0 hc hp
      rw [e0, slB_ok e0]
      exact rsealb_c s t k (by omega) A y p hp w hE hR
    · rw [slE_6 hc hp, slB_no (by rw [slE_6 hc hp]; decide)]
      refine (rsealb_l s t k (by omega) A p.length y (by omega) w hE trivial).mono ?_
      rintro e w' ⟨v, E', he, ⟨rfl, rfl⟩, hh⟩
      exact ⟨_, _, he, ⟨_, rfl, OwnT.nil _ _⟩, hh⟩

theorem openN_c (s : Nat → UInt8) (A : Option Addr) (n y : Nat) (b : List UInt8) (hb : b.length ≤ 20000) : Does Tryz.prog 9 #[((cArr 32).val s), (.slice A n y)] [] (fun w => w.heap[1]? = some (.cells ((cWs 64).enc K32) 125 (0, 0)) ∧ w.heap[0]? = some (.cells ((cWs 8).enc H32) 115 (0, 0)) ∧ w.heap[2]? = some (.cells ((cArr 256).enc boxF) 105 (0, 0)) ∧ w.heap[4]? = some (.cells ((cArr 64).enc dbF) 104 (0, 0)) ∧ Vu cByte w A n y b) (fun v E' => ∃ o, v = .tuple #[o, .int .i64 ((spA (lst 32 s) b : Nat) : Int)] ∧ OwnT cByte 5 o (spZ (lst 32 s) b) E') := fun w hE hR => by
  obtain rfl := hR.2.2.2.2.len
  exact opens_s s A y b hb w hE hR
theorem spW_len (K b A : List UInt8) (z : Nat) (P : List UInt8) : ∀ n, (spW K b A z P n).length = min (z * n) P.length + 16 * n
  | 0 => by rw [spW, Nat.mul_zero, Nat.zero_min]; rfl
  | n + 1 => by
    rw [spW, List.length_append, spW_len K b A z P n, ocS_len, spK_len, Nat.mul_add z n 1, Nat.mul_one]
    omega
theorem spC_ge {z n : Nat} (hz : 0 < z) : n ≤ z * spC z n := openall hz
theorem spBody_len (S t : List UInt8) (ht : t.length = 32) (c : Nat) (P : List UInt8) : (spBody S t c P).length = 52 + P.length + 16 * spC (2 ^ (6 + c)) P.length := by
  unfold spBody spS
  have h2 := spC_ge (z := 2 ^ (6 + c)) (n := P.length) (Nat.pow_pos (by decide))
  have hm := Nat.min_eq_right h2
  simp only [List.length_append, spE_len, List.length_cons, List.length_nil, ht]
  rw [spW_len, hm]
  omega
theorem spC_64 {z n : Nat} (hz : 64 ≤ z) : 64 * spC z n ≤ n + 63 + 64 * 0 ∨ spC z n ≤ n / 64 + 1 := by
  refine .inr ?_
  by_cases h0 : spC z n = 0
  · omega
  · have h1 := (spC_lt (z := z) (n := n) (i := spC z n - 1) (by omega)).1 (by omega)
    have h2 : 64 * (spC z n - 1) ≤ z * (spC z n - 1) := Nat.mul_le_mul_right _ hz
    omega
theorem slB_len {s t : Nat → UInt8} {c : Int} {p : List UInt8} (hp : p.length ≤ 12000) : (slB s t c p).length ≤ 20000 := by
  by_cases h : slE c p = 0
  · obtain ⟨h1, h2⟩ := slE_ok h
    obtain ⟨k, rfl⟩ : ∃ k : Nat, c = (k : Int) := ⟨c.toNat, by omega⟩
    rw [slB_ok h, spBody_len _ _ (lst_len _ _)]
    have h3 : 64 ≤ 2 ^ (6 + k) := by
      rw [Nat.pow_add]
      have := Nat.one_le_two_pow (n := k)
      omega
    rcases spC_64 (n := p.length) h3 with h4 | h4 <;> omega
  · rw [slB_no h]
    exact Nat.zero_le _
theorem slB_back {s t : Nat → UInt8} {c : Int} {p : List UInt8} (h : slE c p = 0) : spA (lst 32 s) (slB s t c p) = 0 ∧ spZ (lst 32 s) (slB s t c p) = p := by
  obtain ⟨h1, h2⟩ := slE_ok h
  obtain ⟨k, rfl⟩ : ∃ k : Nat, c = (k : Int) := ⟨c.toNat, by omega⟩
  rw [slB_ok h]
  have hl := spBody_len (lst 32 s) (lst 32 t) (lst_len _ _) k p
  have hb : spBody (lst 32 s) (lst 32 t) k p = 2 :: 9 :: 2 :: UInt8.ofNat k :: (lst 32 t ++ spS (spKey (lst 32 s) (lst 32 t) k) (spBeg (lst 32 s) (lst 32 t) k) (spI k) (2 ^ (6 + k)) p) := by unfold spBody; simp only [List.cons_append, List.nil_append]
  have hk : (UInt8.ofNat k).toNat = k := by rw [UInt8.toNat_ofNat', Nat.mod_eq_of_lt (by omega)]
  have e0 : hdE (spBody (lst 32 s) (lst 32 t) k p) = 0 := by
    refine (hdE_0 ?_ ?_).1
    · rw [hl, hb]; show ¬ (_ ∨ (2 : UInt8).toNat ≠ 2); intro h; rcases h with h | h; omega; exact h rfl
    · rw [hb]; show ¬ ((9 : UInt8).toNat ≠ 9 ∨ (2 : UInt8).toNat ≠ 2 ∨ 10 < (UInt8.ofNat k).toNat); rw [hk]; intro h; rcases h with h | h | h; exact h rfl; exact h rfl; omega
  exact spA_good e0 (spOpen_body (lst 32 s) (lst 32 t) (lst_len _ _) (by omega) p)

set_option maxHeartbeats 8000000 in
theorem aw16_c  : Pure Tryz.prog 6 #[] (fun w => w.heap[1]? = some (.cells ((cWs 64).enc K32) 125 (0, 0)) ∧ w.heap[0]? = some (.cells ((cWs 8).enc H32) 115 (0, 0)) ∧ w.heap[2]? = some (.cells ((cArr 256).enc boxF) 105 (0, 0)) ∧ w.heap[4]? = some (.cells ((cArr 64).enc dbF) 104 (0, 0))) (.bool true) := by
  refine pure_of (fn := Tryz.f6) Tryz.func6 rfl Tryz.ntmps6 (Nat.le_of_ble_eq_true rfl) rfl ?_
  intro w0 hH hR
  refine zr ?_
  refine zv .mv 0 ?_
  refine zn ?_
  refine zr ?_
  refine zv (v := ((cArr 32).val (fun _ => 0))) (fun _ _ hF => opBuildP (cells := (cArr 32).enc (fun _ => 0)) (vals := []) rfl EvP.nil (by kernel_rfl) _) 1 ?_
  refine zv (v := ((cArr 32).val (fun _ => 0))) (fun _ _ hF => opBuildP (cells := (cArr 32).enc (fun _ => 0)) (vals := []) rfl EvP.nil (by kernel_rfl) _) 0 ?_
  refine zm hH (.call Tryz.func7 ((sealN_c (fun _ => 0) (fun _ => 0) 0 none 0 0 ([])))) (⟨(hH.oldBlk hR.1 (by simp)), (hH.oldBlk hR.2.1 (by simp)), (hH.oldBlk hR.2.2.1 (by simp)), (hH.oldBlk hR.2.2.2 (by simp)), (Vu.none cByte _)⟩) 3 ?_
  clear hH
  rintro _ E1 w ⟨s5, rfl, hO2⟩ hH
  obtain ⟨A3, c4, rfl⟩ := hO2.slice
  refine zv .mv 1 ?_
  refine zv .ext 0 ?_
  refine zv .ext 2 ?_
  refine zv .mv 2 ?_
  refine zv .mv 2 ?_
  refine zn ?_
  have he0 : slE 0 [] = 0 := rfl
  have hl0 : (slB (fun _ => 0) (fun _ => 0) 0 []).length = 52 := by rw [show (0 : Int) = ((0 : Nat) : Int) from rfl, slB_ok (by exact he0), spBody_len _ _ (lst_len _ _)]; rfl
  refine zr ?_
  refine zv .mv 1 ?_
  refine zv (v := (.bool true)) (fun _ _ hF => opEqI rfl (hF.ev 0 rfl) rfl (decide_eq_true (by rw [he0]; rfl))) 1 ?_
  refine zv .mv 1 ?_
  refine pxV (v := (.slice A3 ((slB (fun _ => 0) (fun _ => 0) 0 ([])).length) c4)) (fun _ _ hF => opMove rfl (hF.ev 1 rfl)) rfl (gOn 0 rfl rfl rfl (by decide)) (kM [true, false] rfl rfl) (by decide) ?_
  refine pxV (v := (.int .i64 ((((slB (fun _ => 0) (fun _ => 0) 0 ([])).length) : Nat) : Int))) (fun _ _ hF => opLen (e := 5) rfl (by kernel_rfl) (hF.ev 0 rfl)) rfl (gOn 1 rfl rfl rfl (by decide)) (kM [false, true] rfl rfl) (by decide) ?_
  refine pxV (v := (.bool true)) (fun _ _ hF => opEqI rfl (hF.ev 0 rfl) rfl (decide_eq_true (by rw [hl0]; rfl))) rfl (gOn 1 rfl rfl rfl (by decide)) (kM [false, true] rfl rfl) (by decide) ?_
  refine zv (v := (.bool true)) (fun _ _ hF => opPickT rfl (hF.ev 1 rfl) (hF.ev 0 rfl)) 3 ?_
  refine zv .mv 1 ?_
  refine zn ?_
  refine cxRet ?_
  refine qxRet1 0 rfl rfl ?_
  exact ⟨rfl, HH.toBelow hH⟩

end Go.Proofs.YtfloiekaiiapnaaGreatDoor

namespace Go.Proofs.YtfloiekaiiapnaaGreatDoor
open Go Go.RowKit
set_option maxRecDepth 100000

set_option maxHeartbeats 8000000 in
theorem seals16_c (s t : Nat → UInt8) (c : Int) (A : Option Addr) (n y : Nat) (p : List UInt8) : Pure Tryz.prog 3 #[((cArr 32).val s), ((cArr 32).val t), (.int .i64 (c)), (.slice A n y)] (fun w => w.heap[1]? = some (.cells ((cWs 64).enc K32) 125 (0, 0)) ∧ w.heap[0]? = some (.cells ((cWs 8).enc H32) 115 (0, 0)) ∧ w.heap[2]? = some (.cells ((cArr 256).enc boxF) 105 (0, 0)) ∧ w.heap[4]? = some (.cells ((cArr 64).enc dbF) 104 (0, 0)) ∧ Vu cByte w A n y p) (.bool true) := by
  refine pure_of (fn := Tryz.f3) Tryz.func3 rfl Tryz.ntmps3 (Nat.le_of_ble_eq_true rfl) rfl ?_
  intro w0 hH hR
  refine zr ?_
  refine zm hH (.bx (cArr 32) s) trivial 1 ?_
  clear hH
  rintro _ _ w ⟨g1, rfl, rfl⟩ hH
  refine zm hH (.bx (cArr 32) t) trivial 2 ?_
  clear hH
  rintro _ _ w ⟨g2, rfl, rfl⟩ hH
  refine zv .mv 0 ?_
  refine zn ?_
  refine cxSeq ?_
  refine zr ?_
  refine zm hH (.call Tryz.func6 (aw16_c.does)) (⟨(hH.oldBlk hR.1 (by simp)), (hH.oldBlk hR.2.1 (by simp)), (hH.oldBlk hR.2.2.1 (by simp)), (hH.oldBlk hR.2.2.2.1 (by simp))⟩) 1 ?_
  clear hH
  rintro _ _ w ⟨rfl, rfl⟩ hH
  replace hH : HH w0 [] [[bl g1 22 ((cArr 32).enc s)], [bl g2 22 ((cArr 32).enc t)]] w := hH.unpad
  refine zv (v := (.bool false)) (fun _ _ hF => opNot rfl (hF.ev 0 rfl) rfl) 1 ?_
  refine zv .mv 1 ?_
  refine pxV (v := (.slice A n y)) (fun _ _ hF => opMove rfl (hF.ev 4 rfl)) rfl (gOn 0 rfl rfl rfl (by decide)) (kA rfl) (by decide) ?_
  refine pxV (v := (.int .i64 (((n) : Nat) : Int))) (fun _ _ hF => opLen (e := 5) rfl (by kernel_rfl) (hF.ev 0 rfl)) rfl (gOn 1 rfl rfl rfl (by decide)) (kM [false, true, true, true, true, true] rfl rfl) (by decide) ?_
  refine pxV (v := (.bool (decide (n > 12000)))) (fun _ _ hF => opGtr rfl (hF.ev 0 rfl) rfl (dc (by omega))) rfl (gOn 1 rfl rfl rfl (by decide)) (kM [false, true, true, true, true, true] rfl rfl) (by decide) ?_
  refine zv (v := (.bool (decide (n > 12000)))) (fun _ _ hF => opPickF rfl (hF.ev 1 rfl) (hF.ev 0 rfl)) 3 ?_
  refine zn ?_
  refine zP (fun hc3 => ?_) (fun hc3 => ?_)
  refine zr ?_
  refine zm hH (.call Tryz.func6 (aw16_c.does)) (⟨(hH.oldBlk hR.1 (by simp)), (hH.oldBlk hR.2.1 (by simp)), (hH.oldBlk hR.2.2.1 (by simp)), (hH.oldBlk hR.2.2.2.1 (by simp))⟩) 31 ?_
  clear hH
  rintro _ _ w ⟨rfl, rfl⟩ hH
  replace hH : HH w0 [] [[bl g1 22 ((cArr 32).enc s)], [bl g2 22 ((cArr 32).enc t)]] w := hH.unpad
  refine zv .mv 1 ?_
  refine zn ?_
  refine cxRet ?_
  refine qxThenR ?_
  refine qxRet1 0 rfl rfl ?_
  exact ⟨rfl, HH.toBelow hH⟩
  refine cxSkip ?_
  refine qxThen ?_
  have hpl := hR.2.2.2.2.len
  refine zr ?_
  refine zs (hH.q 0 rfl) (.ld (cArr 32) s (fun _ hS => (holds_blk0 hS))) 1 ?_
  refine zs (hH.q 1 rfl) (.ld (cArr 32) t (fun _ hS => (holds_blk0 hS))) 0 ?_
  refine zv .mv 0 ?_
  refine zv .mv 0 ?_
  refine zm hH (.call Tryz.func7 ((sealN_c s t (c) A n y p))) (⟨(hH.oldBlk hR.1 (by simp)), (hH.oldBlk hR.2.1 (by simp)), (hH.oldBlk hR.2.2.1 (by simp)), (hH.oldBlk hR.2.2.2.1 (by simp)), (hH.vu hR.2.2.2.2 (by decide) (Off.nil _ _))⟩) 15 ?_
  clear hH
  rintro _ E4 w ⟨s8, rfl, hO5⟩ hH
  obtain ⟨A6, c7, rfl⟩ := hO5.slice
  refine zv .mv 1 ?_
  refine zv .ext 0 ?_
  refine zv .ext 2 ?_
  refine zv .mv 2 ?_
  refine zv .mv 2 ?_
  refine zn ?_
  refine zr ?_
  refine zs (hH.q 0 rfl) (.ld (cArr 32) s (fun _ hS => (holds_blk0 hS))) 0 ?_
  refine zs (hH.q 1 rfl) (.ld (cArr 32) t (fun _ hS => (holds_blk0 hS))) 8 ?_
  refine zv .mv 32 ?_
  refine zv .mv 0 ?_
  refine zm hH (.call Tryz.func8 ((rsealN_c s t (c) A n y p))) (hH.vu hR.2.2.2.2 (by decide) (Off.nil _ _)) 15 ?_
  clear hH
  rintro _ E10 w ⟨s14, rfl, hO11⟩ hH
  obtain ⟨A12, c13, rfl⟩ := hO11.slice
  refine zv .mv 1 ?_
  refine zv .ext 0 ?_
  refine zv .ext 2 ?_
  refine zv .mv 2 ?_
  refine zv .mv 2 ?_
  refine zn ?_
  refine cxSeq ?_
  have hbl : (slB s t (c) p).length ≤ 20000 := slB_len (by omega)
  refine zr ?_
  refine zv .mv 0 ?_
  refine zs (S := fun w => Vu cByte w A6 ((slB s t (c) p).length) c7 (slB s t (c) p)) (hO5.vuAt (hH.has 2 rfl)) (v := (.string (strL (slB s t (c) p)))) (fun _ _ hF hS => opStr (e := 5) rfl (by kernel_rfl) (by kernel_rfl) (by kernel_rfl) (hF.ev 0 rfl) hS) 1 ?_
  refine zv .mv 4 ?_
  refine zs (S := fun w => Vu cByte w A12 ((slB s t (c) p).length) c13 (slB s t (c) p)) (hO11.vuAt (hH.has 3 rfl)) (v := (.string (strL (slB s t (c) p)))) (fun _ _ hF hS => opStr (e := 5) rfl (by kernel_rfl) (by kernel_rfl) (by kernel_rfl) (hF.ev 0 rfl) hS) 1 ?_
  refine zv (v := (.bool false)) (fun _ _ hF => opNeLb (l := (slB s t (c) p)) (m := (slB s t (c) p)) rfl (hF.ev 1 rfl) (hF.ev 0 rfl) (decide_eq_false (fun h => h rfl))) 3 ?_
  refine zv .mv 1 ?_
  refine pxV (v := (.int .i64 ((((slE (c) p)) : Nat) : Int))) (fun _ _ hF => opMove rfl (hF.ev 2 rfl)) rfl (gOn 0 rfl rfl rfl (by decide)) (kA rfl) (by decide) ?_
  refine pxV (v := (.int .i64 ((((slE (c) p)) : Nat) : Int))) (fun _ _ hF => opMove rfl (hF.ev 2 rfl)) rfl (gOn 1 rfl rfl rfl (by decide)) (kM [true, true, false, true, true, true, true] rfl rfl) (by decide) ?_
  refine pxV (v := (.bool false)) (fun _ _ hF => opNeI rfl (hF.ev 1 rfl) (hF.ev 0 rfl) (decide_eq_false (fun h => h rfl))) rfl (gOn 2 rfl rfl rfl (by decide)) (kM [false, false, true, true, true, true, true] rfl rfl) (by decide) ?_
  refine zv (v := (.bool false)) (fun _ _ hF => opPickF rfl (hF.ev 1 rfl) (hF.ev 0 rfl)) 3 ?_
  refine zn ?_
  refine zF ?_
  refine cxSkip ?_
  refine qxThen ?_
  refine zr ?_
  refine zs (hH.q 0 rfl) (.ld (cArr 32) s (fun _ hS => (holds_blk0 hS))) 9 ?_
  refine zv .mv 4 ?_
  refine zm hH (.call Tryz.func9 ((openN_c s A6 ((slB s t (c) p).length) c7 (slB s t (c) p) (by omega)))) (⟨(hH.oldBlk hR.1 (by simp)), (hH.oldBlk hR.2.1 (by simp)), (hH.oldBlk hR.2.2.1 (by simp)), (hH.oldBlk hR.2.2.2.1 (by simp)), (hO5.vuAt (hH.has 2 rfl))⟩) 3 ?_
  clear hH
  rintro _ E16 w ⟨s20, rfl, hO17⟩ hH
  obtain ⟨A18, c19, rfl⟩ := hO17.slice
  refine zv .mv 1 ?_
  refine zv .ext 0 ?_
  refine zv .ext 2 ?_
  refine zv .mv 2 ?_
  refine zv .mv 2 ?_
  refine zn ?_
  refine zr ?_
  refine zv .mv 4 ?_
  refine zv (.ne ((slE (c) p) ≠ 0)) 1 ?_
  refine zv .mv 1 ?_
  refine pxSplitP 0 rfl (l1 := [(57, (.bool true)), (14, (.int .i64 ((((spA (lst 32 s) (slB s t (c) p))) : Nat) : Int))), (13, (.slice A18 ((spZ (lst 32 s) (slB s t (c) p)).length) c19)), (3, (.slice A n y))]) (l2 := [(57, (.bool false)), (14, (.int .i64 ((((spA (lst 32 s) (slB s t (c) p))) : Nat) : Int))), (13, (.slice A18 ((spZ (lst 32 s) (slB s t (c) p)).length) c19)), (3, (.slice A n y))]) rfl rfl (fun hg22 => ?_) (fun hg22 => ?_)
  refine pxU rfl (gOff 0 rfl rfl rfl (by decide)) (kM [true, false, true, true] rfl rfl) (by decide) ?_
  refine pxU rfl (gOff 0 rfl rfl rfl (by decide)) (kA rfl) (by decide) ?_
  refine pxUK rfl (gOff 0 rfl rfl rfl (by decide)) (kA rfl) (by decide) ?_
  refine pxU rfl (gOffU 0 rfl rfl rfl) (kM [true, true, false, true] rfl rfl) (by decide) ?_
  refine pxU rfl (gOffU 0 rfl rfl rfl) (kA rfl) (by decide) ?_
  refine pxU rfl (gOffU 0 rfl rfl rfl) (kM [true, true, false] rfl rfl) (by decide) ?_
  refine pxU rfl (gOffU 0 rfl rfl rfl) (kA rfl) (by decide) ?_
  refine pxU rfl (gOffU 0 rfl rfl rfl) (kA rfl) (by decide) ?_
  refine pxU rfl (gOff 1 rfl rfl rfl (by decide)) (kM [false, true] rfl rfl) (by decide) ?_
  refine zv (v := (.bool true)) (fun _ _ hF => opPickT rfl (hF.ev 0 rfl) rfl) 1 ?_
  refine zv .mv 1 ?_
  refine zn ?_
  refine cxRet ?_
  refine qxRet1 0 rfl rfl ?_
  exact ⟨rfl, HH.toBelow hH⟩
  refine pxV (v := (.int .i64 ((((spA (lst 32 s) (slB s t (c) p))) : Nat) : Int))) (fun _ _ hF => opMove rfl (hF.ev 1 rfl)) rfl (gOn 0 rfl rfl rfl (by decide)) (kM [true, false, true, true] rfl rfl) (by decide) ?_
  refine pxV (v := (.bool true)) (fun _ _ hF => opEqI rfl (hF.ev 0 rfl) rfl (decide_eq_true (by rw [(slB_back (s := s) (t := t) (by omega : slE c p = 0)).1]; rfl))) rfl (gOn 1 rfl rfl rfl (by decide)) (kM [false, true, true, true] rfl rfl) (by decide) ?_
  refine pxV (v := (.bool true)) (fun _ _ hF => opMove rfl (hF.ev 0 rfl)) rfl (gOn 1 rfl rfl rfl (by decide)) (kM [false, true, true, true] rfl rfl) (by decide) ?_
  refine pxV (v := (.slice A18 ((spZ (lst 32 s) (slB s t (c) p)).length) c19)) (fun _ _ hF => opMove rfl (hF.ev 2 rfl)) rfl (gOn 0 rfl rfl rfl (by decide)) (kM [true, true, false, true] rfl rfl) (by decide) ?_
  refine pxS (v := (.string (strL (spZ (lst 32 s) (slB s t (c) p))))) (fun w => Vu cByte w A18 ((spZ (lst 32 s) (slB s t (c) p)).length) c19 (spZ (lst 32 s) (slB s t (c) p))) (hO17.vuAt (hH.has 4 rfl)) (fun _ _ hF hS => opStr (e := 5) rfl (by kernel_rfl) (by kernel_rfl) (by kernel_rfl) (hF.ev 0 rfl) hS) rfl (gOn 1 rfl rfl rfl (by decide)) (kM [false, true, true, true] rfl rfl) (by decide) ?_
  refine pxV (v := (.slice A n y)) (fun _ _ hF => opMove rfl (hF.ev 3 rfl)) rfl (gOn 1 rfl rfl rfl (by decide)) (kM [true, true, true, false] rfl rfl) (by decide) ?_
  refine pxS (v := (.string (strL p))) (fun w => Vu cByte w A n y p) (hH.vu hR.2.2.2.2 (by decide) (Off.nil _ _)) (fun _ _ hF hS => opStr (e := 5) rfl (by kernel_rfl) (by kernel_rfl) (by kernel_rfl) (hF.ev 0 rfl) hS) rfl (gOn 2 rfl rfl rfl (by decide)) (kM [false, true, true, true] rfl rfl) (by decide) ?_
  refine pxV (v := (.bool true)) (fun _ _ hF => opEqLb (l := (spZ (lst 32 s) (slB s t (c) p))) (m := p) rfl (hF.ev 1 rfl) (hF.ev 0 rfl) (decide_eq_true ((slB_back (s := s) (t := t) (by omega : slE c p = 0)).2))) rfl (gOn 2 rfl rfl rfl (by decide)) (kM [false, false, true, true] rfl rfl) (by decide) ?_
  refine pxV (v := (.bool true)) (fun _ _ hF => opPickT rfl (hF.ev 1 rfl) (hF.ev 0 rfl)) rfl (gOn 2 rfl rfl rfl (by decide)) (kM [false, false, true] rfl rfl) (by decide) ?_
  refine zv (v := (.bool true)) (fun _ _ hF => opPickF rfl (hF.ev 1 rfl) (hF.ev 0 rfl)) 3 ?_
  refine zv .mv 1 ?_
  refine zn ?_
  refine cxRet ?_
  refine qxRet1 0 rfl rfl ?_
  exact ⟨rfl, HH.toBelow hH⟩
end Go.Proofs.YtfloiekaiiapnaaGreatDoor

namespace Go.Proofs.YtfloiekaiiapnaaGreatDoor
open Go Go.RowKit Go.WideShapes Go.Deep

/-- Whatever is read as type t is a datum of C, of which Ok holds. -/
def Opens {α : Type} (P : Program) (t : TypeId) (C : Cod α) (Ok : World → α → Prop) : Prop :=
  ∀ {H : Type} (enc : TypeId × Value → H) (w : World) (fuel : Nat) (cs : List Value) (x : DataW H × List MemPlace), DataW.trod enc P w 0 (fun _ => true) true fuel t cs = some x → (x.1.weights P t).all (· ≤ reachBytes) = true → ∃ a, cs = (C.enc a).toList ∧ Ok w a

section
variable {P : Program} {t e : TypeId} {α β : Type} {A C : Cod α} {B : Cod β} {Ok OkA : World → α → Prop} {OkB : World → β → Prop}
theorem opens_i64 (hu : P.underlying t = some (.int .i64)) : Opens P t (cInt .i64) (fun _ i => -9223372036854775808 ≤ i ∧ i ≤ 9223372036854775807) := fun enc w fuel cs x h _ => by
  obtain ⟨n, rfl, _, hw⟩ := DataW.trod_int hu h
  refine ⟨n, rfl, ?_⟩
  simp [Lit.wf, IntKind.min, IntKind.max, IntKind.signed, IntKind.bits] at hw
  omega
theorem opens_byte (hu : P.underlying t = some (.int .u8)) : Opens P t cByte (fun _ _ => True) := fun enc w fuel cs x h _ => by
  obtain ⟨n, rfl, _, hw⟩ := DataW.trod_int hu h
  have h8 : 0 ≤ n ∧ n ≤ 255 := by
    simp [Lit.wf, IntKind.min, IntKind.max, IntKind.signed, IntKind.bits] at hw
    omega
  refine ⟨UInt8.ofNat n.toNat, ?_, trivial⟩
  have e : ((UInt8.ofNat n.toNat).toNat : Int) = n := by rw [UInt8.toNat_ofNat']; omega
  show _ = [Value.int .u8 ((UInt8.ofNat n.toNat).toNat : Int)]
  rw [e]
theorem weightsAll_mem {H : Type} {P : Program} {e : TypeId} : ∀ {ds : List (DataW H)} {d : DataW H}, d ∈ ds → ∀ n ∈ d.weights P e, n ∈ DataW.weightsAll P e ds
  | d0 :: r, d, hd, n, hn => by
    simp only [DataW.weightsAll, List.mem_append]
    rcases List.mem_cons.1 hd with rfl | hd
    · exact .inl hn
    · exact .inr (weightsAll_mem hd n hn)
/-- What lies behind a slice's head. -/
def SlOk {α : Type} (P : Program) (e : TypeId) (C : Cod α) (Ok : World → α → Prop) (w : World) (s : Option Addr × Nat × Nat) : Prop :=
  ∃ l : List α, s.2.1 = l.length ∧ Vu C w s.1 l.length s.2.2 l ∧ (∀ a ∈ l, Ok w a) ∧ s.2.2 * P.bytesOf e ≤ reachBytes
theorem opens_slice (hu : P.underlying t = some (.slice e)) (hc : P.cellsOf e = C.sz) (hp : 0 < C.sz) (he : Opens P e C Ok) : Opens P t cSl (SlOk P e C Ok) := fun enc w fuel cs x h hz => by
  rcases open_slice hu h with ⟨rfl, rfl⟩ | ⟨a, len, cap, m, n, D, Pl, rfl, _, hl, hm, hmm, rfl, hx⟩
  · exact ⟨(none, 0, 0), rfl, [], rfl, Vu.none C w, (fun _ h => by cases h), by simp⟩
  · simp only [if_true] at hmm
    subst hmm
    simp only [DataW.weights, hu, List.all_cons, Bool.and_eq_true, decide_eq_true_eq, List.length_map, List.length_range] at hz
    have hw : ∀ i, i < m → ((D i).weights P e).all (· ≤ reachBytes) = true := fun i hi => by
      rw [List.all_eq_true]
      intro k hk
      have h2 := hz.2
      rw [List.all_append, Bool.and_eq_true] at h2
      by_cases hil : i < len
      · exact List.all_eq_true.1 h2.1 k (weightsAll_mem (List.mem_map.2 ⟨i, by simpa using hil, rfl⟩) k hk)
      · exact List.all_eq_true.1 h2.2 k (weightsAll_mem (List.mem_map.2 ⟨i - len, by simp; omega, by congr 1; omega⟩) k hk)
    have each : ∀ i, i < len → ∃ b : α, (∀ j, j < C.sz → w.cell? (a.add (i * C.sz + j)) = (C.enc b)[j]?) ∧ Ok w b := fun i hi => by
      obtain ⟨cs', h1, h2⟩ := hx i (by omega)
      obtain ⟨b, rfl, hok⟩ := he enc w n cs' _ h2 (hw i (by omega))
      rw [hc] at h1
      obtain ⟨_, _, hcell⟩ := World.cells?_some h1
      refine ⟨b, fun j hj => ?_, hok⟩
      rw [← add_add, hcell j hj, Array.getElem?_toList]
    obtain ⟨f, hf⟩ : ∃ f : (i : Nat) → i < len → α, ∀ i h, (∀ j, j < C.sz → w.cell? (a.add (i * C.sz + j)) = (C.enc (f i h))[j]?) ∧ Ok w (f i h) := ⟨fun i h => (each i h).choose, fun i h => (each i h).choose_spec⟩
    let l : List α := List.ofFn fun i : Fin len => f i i.isLt
    have hll : l.length = len := by simp [l]
    have hlg : ∀ i (h : i < len), l[i]? = some (f i h) := fun i h => by simp [l, h]
    refine ⟨(some a, len, m), rfl, l, hll.symm, ⟨rfl, by rw [hll]; exact hl, (fun h => by cases h), fun hn => ?_⟩, fun b hb => ?_, ?_⟩
    · obtain ⟨ab, ao, spot⟩ := a
      rw [hll] at hn
      have hcell0 := (hf 0 hn).1 0 hp
      have hspot : spot = none := by
        rw [Array.getElem?_eq_getElem (by rw [C.size]; exact hp)] at hcell0
        have := World.cell?_spot hcell0
        simpa [Addr.add] using this
      subst hspot
      refine ⟨ab, ao, rfl, fun i y hy j u hu' => ?_⟩
      have hi : i < len := by rw [← hll]; exact (List.getElem?_eq_some_iff.1 hy).1
      rw [hlg i hi] at hy
      obtain rfl := Option.some.inj hy
      have hj : j < C.sz := by
        have := (Array.getElem?_eq_some_iff.1 hu').1
        rwa [C.size] at this
      have := (hf i hi).1 j hj
      rw [Addr.add_mid, hu'] at this
      rw [Nat.add_assoc]; exact this
    · obtain ⟨i, hi⟩ := List.getElem?_of_mem hb
      have hil : i < len := by rw [← hll]; exact (List.getElem?_eq_some_iff.1 hi).1
      rw [hlg i hil] at hi
      obtain rfl := Option.some.inj hi
      exact (hf i hil).2
    · have h1 := hz.1
      rw [show len + (m - len) = m by omega] at h1
      exact h1
theorem opens_arr {n : Nat} (hu : P.underlying t = some (.array n e)) (hc : P.cellsOf t = n) (he : P.underlying e = some (.int .u8)) (h1 : P.cellsOf e = 1) : Opens P t (cArr n) (fun _ _ => True) := fun enc w fuel cs x h _ => by
  obtain ⟨xs, m, _, _, hl, hx, hel⟩ := DataW.trod_array hu h
  have each : ∀ i, i < n → ∃ b : UInt8, cs[i]? = some (.int .u8 (b.toNat : Int)) := fun i hi => by
    have h2 := hel i hi
    rw [h1, List.getElem?_eq_getElem (by omega)] at h2
    obtain ⟨k, hn, _, hw⟩ := DataW.trod_int he h2
    have hr : 0 ≤ k ∧ k ≤ 255 := by
      simp [Lit.wf, IntKind.min, IntKind.max, IntKind.signed, IntKind.bits] at hw
      omega
    refine ⟨UInt8.ofNat k.toNat, ?_⟩
    have h3 := congrArg (fun l => l[0]?) hn
    simp at h3
    rw [h3]
    congr 2
    rw [UInt8.toNat_ofNat']
    omega
  obtain ⟨f, hf⟩ : ∃ f : Nat → UInt8, ∀ i, i < n → cs[i]? = some (.int .u8 ((f i).toNat : Int)) :=
    ⟨fun i => if h : i < n then (each i h).choose else 0, fun i hi => by simpa [hi] using (each i hi).choose_spec⟩
  refine ⟨f, ?_, trivial⟩
  apply List.ext_getElem?
  intro i
  rw [enc_arr, Array.getElem?_toList (xs := row n f)]
  by_cases hi : i < n
  · rw [row_get n f i hi, hf i hi]
    rfl
  · rw [List.getElem?_eq_none (by rw [hl, hc]; omega), Array.getElem?_eq_none (by rw [row_size]; omega)]
/-- An argument is its datum's value. -/
theorem okWide_noAgg {w : World} {base : Nat} {cs : Array Value} (hd : (P.underlying t).map (·.isRow) = some false) (h : Value.okWide P w .any base t (.agg cs)) : False := by
  cases hu : P.underlying t with
  | none => rw [hu] at hd; cases hd
  | some d =>
    rw [hu] at hd
    have hd := Option.some.inj hd
    cases d <;> first | (cases hd; done) | (simp [Value.okWide, hu, Cell.okWide, Cell.ok] at h)
theorem open_arg {H : Type} {enc : TypeId × Value → H} {W : World} {base : Nat} {v : Value} {d : DataW H} {p : List MemPlace} (ho : Opens P t C Ok) (hty : tyOk P t C = true) (hval : Value.okWide P W .any base t v) (h : DataW.Trod enc P W 0 (fun _ => true) true t v d p)
    (hz : (d.weights P t).all (· ≤ reachBytes) = true) : ∃ a, v = C.val a ∧ Ok W a := by
  obtain ⟨fuel, hf⟩ := h
  obtain ⟨a, ha, hok⟩ := ho enc W fuel _ _ hf hz
  refine ⟨a, ?_, hok⟩
  have ha' : v.cells = C.enc a := Array.ext' ha
  obtain ⟨hd, _⟩ := tyOk.spec hty
  cases hr : C.row with
  | true =>
    rw [hr] at hd
    have : ∃ cs, v = .agg cs := by
      cases hu : P.underlying t with
      | none => rw [hu] at hd; cases hd
      | some dd =>
        rw [hu] at hd
        have hd := Option.some.inj hd
        simp only [Value.okWide, hu] at hval
        cases dd <;> first | (cases hd; done) | (obtain ⟨cs, rfl, _⟩ := hval; exact ⟨cs, rfl⟩)
    obtain ⟨cs, rfl⟩ := this
    rw [C.agg hr a]
    exact congrArg Value.agg ha'
  | false =>
    rw [hr] at hd
    have h1 := one_cells (C.scal hr a)
    have h2 : v.cells = #[C.val a] := ha'.trans h1
    cases v with
    | agg cs => exact (okWide_noAgg hd hval).elim
    | _ => simpa [Value.cells] using h2
end
end Go.Proofs.YtfloiekaiiapnaaGreatDoor
