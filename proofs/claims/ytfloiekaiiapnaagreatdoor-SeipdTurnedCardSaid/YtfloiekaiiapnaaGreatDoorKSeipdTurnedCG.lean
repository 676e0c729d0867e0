/- What the claim leans on, part 7: plain theorems, and walks of functions of the program and of the document. -/
import Derived.Test.YtfloiekaiiapnaaGreatDoorKSeipdTurnedCF
import Derived.Test.YtfloiekaiiapnaaGreatDoorKSeipdTurnedCA
import Derived.OpenShut
import Derived.Deep.Slices
import Derived.SizedLaws
import Derived.WideShapes
import Derived.ChangeArms
namespace Go.Proofs.YtfloiekaiiapnaaGreatDoor
open Go Go.RowKit
set_option maxRecDepth 100000

theorem spO_few {K b I q : List UInt8} {z f i : Nat} {O : List UInt8} (h : q.length < 16) : spO K b I z f i q O = none := by
  rw [spO_end (by omega)]
  exact if_neg fun g => by have := g.1.1; omega
theorem ocS_16 {K N A S : List UInt8} (h : S.length = 16) : (ocG K N A S ∧ (ocP K N S).length = 0) ↔ ocS K N A [] = S := by
  constructor
  · intro ⟨h1, h2⟩
    have h3 := (ocG_iff (by omega)).1 h1
    rw [List.eq_nil_of_length_eq_zero h2] at h3
    have h4 : lst 16 (cutF S (S.length - 16)) = S := by rw [h]; exact (lst_of_known (fun j hj => by have := cut_get (T := S) (k := 0) (j := j) (by omega); rwa [Nat.zero_add] at this) h).symm
    rw [h4] at h3
    exact h3
  · intro e
    subst e
    exact ⟨ocG_seal _ _ _ _, by rw [ocP_seal]; rfl⟩
theorem cut_part {q : List UInt8} {z a : Nat} : (((q.take (q.length - 16)).drop a).take z) = (q.drop a).take (min z ((q.drop a).length - 16)) := by
  rw [List.drop_take, List.take_take, List.length_drop, show q.length - 16 - a = q.length - a - 16 by omega]
/-- Where the k-th chunk begins. -/
abbrev opA (z n k : Nat) : Nat := min (z * k) n
theorem open_next {K b I q L W : List UInt8} {z k : Nat} {V : Option (List UInt8)} (hq : 16 ≤ q.length) (hx : (z + 16) * k < q.length - 16)
    (hT : ∃ f, q.length - opA (z + 16) (q.length - 16) k ≤ f ∧ spO K b I z f k (q.drop (opA (z + 16) (q.length - 16) k)) L = V) (hW : W = ((q.take (q.length - 16)).drop ((z + 16) * k)).take (z + 16)) :
    (opK K (spN b k) I W → ∃ f, q.length - opA (z + 16) (q.length - 16) (k + 1) ≤ f ∧ spO K b I z f (k + 1) (q.drop (opA (z + 16) (q.length - 16) (k + 1))) (L ++ ocP K (spN b k) W) = V) ∧ (¬ opK K (spN b k) I W → V = none) := by
  obtain ⟨f, hf, e⟩ := hT
  have ha : opA (z + 16) (q.length - 16) k = (z + 16) * k := Nat.min_eq_left (by omega)
  rw [ha] at hf e
  have hl : (q.drop ((z + 16) * k)).length = q.length - (z + 16) * k := List.length_drop
  have hW2 : W = spH z (q.drop ((z + 16) * k)) := hW.trans cut_part
  have hn : opA (z + 16) (q.length - 16) (k + 1) = (z + 16) * k + min (z + 16) ((q.drop ((z + 16) * k)).length - 16) := by unfold opA; rw [hl, Nat.mul_add (z + 16) k 1, Nat.mul_one]; omega
  obtain ⟨f, rfl⟩ : ∃ g, f = g + 1 := ⟨f - 1, by omega⟩
  refine ⟨fun h => ⟨f, ?_, ?_⟩, fun h => ?_⟩
  · rw [hn, hl]; omega
  · rw [← e, spO_next (by omega) (hW2 ▸ h.1) (hW2 ▸ h.2), hn, ← List.drop_drop, ← hW2]
  · rw [← e]
    exact spO_bad (by omega) (fun g => h (by rw [hW2]; exact g))
theorem opE_0 {K N A S : List UInt8} (h : ¬ opE K N A S ≠ 0) (i : Nat) : opK K N A S ∧ opR K N A S = ocP K N S ∧ opI K N A S i = i + 1 := by
  by_cases g : opK K N A S
  · exact ⟨g, if_pos g, if_pos g⟩
  · exact absurd (by unfold opE; rw [if_neg g]; decide) h
theorem opE_1 {K N A S : List UInt8} (h : opE K N A S ≠ 0) : ¬ opK K N A S := fun g => h (if_pos g)
theorem opE_5 {K N A S : List UInt8} (h : opE K N A S ≠ 0) : opE K N A S = 5 := if_neg (opE_1 h)
theorem opR_len {K N A S : List UInt8} : (opR K N A S).length ≤ S.length := by
  unfold opR
  split
  · rw [ocP_len]; omega
  · exact Nat.zero_le _

set_option maxHeartbeats 8000000 in
theorem openAll_few (g : Nat) (A : Option Addr) (zk : Nat) (K : List UInt8) (B : Option Addr) (y : Nat) (b : List UInt8) (Ai : Option Addr) (yi : Nat) (I : List UInt8) (z : Nat) (Aq : Option Addr) (yq : Nat) (q : List UInt8) (hq : q.length ≤ 20000) (hfew : q.length < 16) : Does Tryz.prog 23 #[(.pointer (some ⟨g, 0, none⟩)), (.slice Aq q.length yq), (.int .i64 (((z) : Nat) : Int))] [bl g 55 (cRn.enc ((A, 32, zk), (B, 7, y), (Ai, 5, yi), 0, 0))] (fun w => w.heap[2]? = some (.cells ((cArr 256).enc boxF) 105 (0, 0)) ∧ w.heap[4]? = some (.cells ((cArr 64).enc dbF) 104 (0, 0)) ∧ (Vu cByte w A 32 zk K ∧ Off A 32 [g]) ∧ (Vu cByte w B 7 y b ∧ Off B 7 [g]) ∧ (Vu cByte w Ai 5 yi I ∧ Off Ai 5 [g]) ∧ Vu cByte w Aq q.length yq q ∧ Off Aq q.length [g]) (fun v E' => ∃ o, v = .tuple #[o, .int .i64 (((if (spO K b I z q.length 0 q []).isSome then 0 else 5) : Nat) : Int)] ∧ OwnT cByte 5 o ((spO K b I z q.length 0 q []).getD []) E') := by
  refine does_ofM (fn := Tryz.f23) Tryz.func23 rfl Tryz.ntmps23 (Nat.le_of_ble_eq_true rfl) rfl ?_
  intro w0 hH hR
  refine zr ?_
  refine zm hH (fun _ hF => smBox rfl (hF.ev 0 rfl) rfl) trivial 1 ?_
  clear hH
  rintro _ _ w ⟨g1, rfl, rfl⟩ hH
  refine zm hH (fun _ hF => smAlloc (z := (.slice none 0 0)) rfl (by kernel_rfl) rfl) trivial 0 ?_
  clear hH
  rintro _ _ w ⟨g2, rfl, rfl⟩ hH
  refine zm hH (fun _ hF => smAlloc (z := (.int .i64 0)) rfl (by kernel_rfl) rfl) trivial 0 ?_
  clear hH
  rintro _ _ w ⟨g3, rfl, rfl⟩ hH
  refine zn ?_
  refine zr ?_
  refine zv .mv 0 ?_
  refine zv .len 1 ?_
  refine zv (v := (.int .i64 ((((q.length) : Nat) : Int) - 16))) (fun _ _ hF => opSub rfl (hF.ev 0 rfl) rfl (wI rfl (by omega) (by omega))) 1 ?_
  refine zv .mv 1 ?_
  refine zn ?_
  refine cxSeq ?_
  refine zr ?_
  refine zv .mv 0 ?_
  refine zv (v := (.bool true)) (fun _ _ hF => opLss rfl (hF.ev 0 rfl) rfl (decide_eq_true (by omega))) 1 ?_
  refine zn ?_
  refine zT ?_
  refine zr ?_
  refine ze0 2 hH rfl .sc trivial ?_
  clear hH
  rintro _ _ w rfl hH
  refine ze0 3 hH rfl .sc trivial ?_
  clear hH
  rintro _ _ w rfl hH
  refine zn ?_
  refine cxRet ?_
  refine qxThenR ?_
  refine qxMRet1CC 3 2 (hH.blk 2 rfl) (hH.blk 3 rfl) rfl rfl rfl (by kernel_rfl) (by kernel_rfl) ?_
  have hW : (spO K b I z q.length 0 q []) = none := spO_few hfew
  exact ⟨_, _, rfl, ⟨_, by rw [hW]; rfl, by rw [hW]; exact OwnT.nil _ _⟩, hH.out [false, false, false, false]⟩

theorem opennxt {K b I q L : List UInt8} {z k : Nat} {V : Option (List UInt8)} {pre : List (Ptz (z + 16) (q.length - 16))} {x : Ptz (z + 16) (q.length - 16)} (hq : 16 ≤ q.length) (hk : k = pre.length)
    (hT : pre.map (·.1) = List.range k → ∃ f, q.length - opA (z + 16) (q.length - 16) k ≤ f ∧ spO K b I z f k (q.drop (opA (z + 16) (q.length - 16) k)) L = V) (hx : (z + 16) * x.1 < q.length - 16) (h : (pre ++ [x]).map (·.1) = List.range (pre ++ [x]).length)
    (hK : opK K (spN b k) I (((q.take (q.length - 16)).drop ((z + 16) * x.1)).take (z + 16))) : ∃ f, q.length - opA (z + 16) (q.length - 16) (k + 1) ≤ f ∧ spO K b I z f (k + 1) (q.drop (opA (z + 16) (q.length - 16) (k + 1))) (L ++ ocP K (spN b k) (((q.take (q.length - 16)).drop ((z + 16) * x.1)).take (z + 16))) = V := by
  obtain ⟨h1, h2⟩ := map_snoc_range h
  replace h2 : x.1 = k := h2.trans hk.symm
  rw [h2] at hx hK ⊢
  exact (open_next hq hx (hT (by rw [hk]; exact h1)) rfl).1 hK
theorem openret {K b I q L : List UInt8} {z k : Nat} {V : Option (List UInt8)} {pre : List (Ptz (z + 16) (q.length - 16))} {x : Ptz (z + 16) (q.length - 16)} (hq : 16 ≤ q.length) (hk : k = pre.length)
    (hT : pre.map (·.1) = List.range k → ∃ f, q.length - opA (z + 16) (q.length - 16) k ≤ f ∧ spO K b I z f k (q.drop (opA (z + 16) (q.length - 16) k)) L = V) (hx : (z + 16) * x.1 < q.length - 16) (h : (pre ++ [x]).map (·.1) = List.range (pre ++ [x]).length)
    (hK : ¬ opK K (spN b k) I (((q.take (q.length - 16)).drop ((z + 16) * x.1)).take (z + 16))) : V = none := by
  obtain ⟨h1, h2⟩ := map_snoc_range h
  replace h2 : x.1 = k := h2.trans hk.symm
  rw [h2] at hx hK
  exact (open_next hq hx (hT (by rw [hk]; exact h1)) rfl).2 hK
theorem openall {n z : Nat} (hz : 0 < z) : n ≤ z * ((n + (z - 1)) / z) := by
  have h := Nat.div_add_mod (n + (z - 1)) z
  have h2 := Nat.mod_lt (n + (z - 1)) hz
  omega

set_option maxHeartbeats 8000000 in
theorem openAll_s (g : Nat) (A : Option Addr) (zk : Nat) (K : List UInt8) (B : Option Addr) (y : Nat) (b : List UInt8) (Ai : Option Addr) (yi : Nat) (I : List UInt8) (z : Nat) (hz1 : 1 ≤ z) (hz2 : z ≤ 65536) (Aq : Option Addr) (yq : Nat) (q : List UInt8) (hq : q.length ≤ 20000) (hq16 : 16 ≤ q.length) : Does Tryz.prog 23 #[(.pointer (some ⟨g, 0, none⟩)), (.slice Aq q.length yq), (.int .i64 (((z) : Nat) : Int))] [bl g 55 (cRn.enc ((A, 32, zk), (B, 7, y), (Ai, 5, yi), 0, 0))] (fun w => w.heap[2]? = some (.cells ((cArr 256).enc boxF) 105 (0, 0)) ∧ w.heap[4]? = some (.cells ((cArr 64).enc dbF) 104 (0, 0)) ∧ (Vu cByte w A 32 zk K ∧ Off A 32 [g]) ∧ (Vu cByte w B 7 y b ∧ Off B 7 [g]) ∧ (Vu cByte w Ai 5 yi I ∧ Off Ai 5 [g]) ∧ Vu cByte w Aq q.length yq q ∧ Off Aq q.length [g]) (fun v E' => ∃ o, v = .tuple #[o, .int .i64 (((if (spO K b I z q.length 0 q []).isSome then 0 else 5) : Nat) : Int)] ∧ OwnT cByte 5 o ((spO K b I z q.length 0 q []).getD []) E') := by
  refine does_ofM (fn := Tryz.f23) Tryz.func23 rfl Tryz.ntmps23 (Nat.le_of_ble_eq_true rfl) rfl ?_
  intro w0 hH hR
  have hcp := hR.2.2.2.2.2.1.cap
  have hb0 : 2 ∉ [g] := ne_ty hR.1 (hH.blk 0 rfl) rfl
  have hd0 : 4 ∉ [g] := ne_ty hR.2.1 (hH.blk 0 rfl) rfl
  have hcn : (q.length - 16 + (z + 16 - 1)) / (z + 16) ≤ q.length - 16 := spC_le (z := z + 16) (n := q.length - 16) (by omega)
  have hKl := hR.2.2.1.1.len; have hbl := hR.2.2.2.1.1.len; have hIl := hR.2.2.2.2.1.1.len
  refine zr ?_
  refine zm hH (fun _ hF => smBox rfl (hF.ev 0 rfl) rfl) trivial 1 ?_
  clear hH
  rintro _ _ w ⟨g1, rfl, rfl⟩ hH
  refine zm hH (fun _ hF => smAlloc (z := (.slice none 0 0)) rfl (by kernel_rfl) rfl) trivial 0 ?_
  clear hH
  rintro _ _ w ⟨g2, rfl, rfl⟩ hH
  refine zm hH (fun _ hF => smAlloc (z := (.int .i64 0)) rfl (by kernel_rfl) rfl) trivial 0 ?_
  clear hH
  rintro _ _ w ⟨g3, rfl, rfl⟩ hH
  refine zn ?_
  refine zr ?_
  refine zv .mv 0 ?_
  refine zv .len 1 ?_
  refine zv (.sub ((((q.length - 16)) : Nat) : Int)) 1 ?_
  refine zv .mv 1 ?_
  refine zn ?_
  refine cxSeq ?_
  refine zr ?_
  refine zv .mv 0 ?_
  refine zv (v := (.bool false)) (fun _ _ hF => opLss rfl (hF.ev 0 rfl) rfl (decide_eq_false (by omega))) 1 ?_
  refine zn ?_
  refine zF ?_
  refine cxSkip ?_
  refine qxThen ?_
  refine zr ?_
  refine zm hH (fun _ hF => smAlloc (z := (.slice none 0 0)) rfl (by kernel_rfl) rfl) trivial 1 ?_
  clear hH
  rintro _ _ w ⟨g4, rfl, rfl⟩ hH
  refine zn ?_
  refine cxSeq ?_
  refine zr ?_
  refine zv .mv 0 ?_
  refine zv .mv 0 ?_
  refine zv (v := (.slice Aq (q.length - 16) yq)) (fun _ _ hF => opCutH (h := (q.length - 16)) (e := 5) (sz := 1) rfl (by kernel_rfl) (by kernel_rfl) (hF.ev 1 rfl) (hF.ev 0 rfl) rfl (by omega)) 3 ?_
  refine zv .mv 128 ?_
  refine zv (.add ((((z + 16)) : Nat) : Int)) 1 ?_
  refine zm hH (.call Tryz.func13 (chkz_d (z + 16) (by omega) Aq (q.length - 16) yq)) trivial 3 ?_
  clear hH
  rintro _ _ w ⟨B_, rfl, rfl⟩ hH
  refine zn ?_
  refine cxBlock ?_
  replace hH := HH.pad hH 1
  replace hH : HH w0 (bks ([bl g 55 (cRn.enc ((A, 32, zk), (B, 7, y), (Ai, 5, yi), 0, 0))])) [[bl g 55 (cRn.enc ((A, 32, zk), (B, 7, y), (Ai, 5, yi), 0, 0))], [bl g1 35 #[(.pointer (some ⟨g, 0, none⟩))]], [bl g2 23 #[(.slice none 0 0)]], [bl g3 25 #[(.int .i64 0)]], [bl g4 23 #[(.slice none 0 0)]], [bl B_ 23 #[.slice Aq (q.length - 16) yq], bl (B_ + 1) 3 #[.int .i64 (((z + 16) : Nat) : Int)]], []] w := hH
  obtain ⟨b0, off, hA⟩ : ∃ b off, 0 < (q.length - 16) → Aq = some ⟨b, off, none⟩ := by
    by_cases h : 0 < (q.length - 16)
    · obtain ⟨b, off, h1, _⟩ := (hR.2.2.2.2.2.1.head (m := q.length - 16) (by omega)).open h; exact ⟨b, off, fun _ => h1⟩
    · exact ⟨0, 0, fun h' => absurd h' h⟩
  have hH1 : HH w0 (bks ([bl g 55 (cRn.enc ((A, 32, zk), (B, 7, y), (Ai, 5, yi), 0, 0))])) [[bl B_ 23 #[.slice Aq (q.length - 16) yq], bl (B_ + 1) 3 #[.int .i64 (((z + 16) : Nat) : Int)]], [bl g1 35 #[(.pointer (some ⟨g, 0, none⟩))]], [bl g2 23 #[(.slice none 0 0)]], [bl g3 25 #[(.int .i64 0)]], [bl g4 23 #[(.slice none 0 0)]], [bl g 55 (cRn.enc ((A, 32, zk), (B, 7, y), (Ai, 5, yi), 0, 0))], []] w := HH.sel hH [5, 1, 2, 3, 4, 0, 6] rfl (by decide)
  have hH2 : HH w0 (bks ([bl g 55 (cRn.enc ((A, 32, zk), (B, 7, y), (Ai, 5, yi), 0, 0))])) ([[bl B_ 23 #[.slice Aq (q.length - 16) yq], bl (B_ + 1) 3 #[.int .i64 (((z + 16) : Nat) : Int)]]] ++ [([bl g1 35 #[(.pointer (some ⟨g, 0, none⟩))]]) ++ (([bl g2 23 #[(.slice none 0 0)]]) ++ (([bl g3 25 #[(.int .i64 0)]]) ++ (([bl g4 23 #[(.slice none 0 0)]]) ++ (([bl g 55 (cRn.enc ((A, 32, zk), (B, 7, y), (Ai, 5, yi), 0, 0))]) ++ ([])))))]) w := hH1.cast (by simp)
  clear hH1
  have hcB1 : Blk w B_ 23 #[.slice Aq (q.length - 16) yq] := (hH2.has 0 rfl).blk (bl B_ 23 #[.slice Aq (q.length - 16) yq]) (by simp)
  have hcB2 : Blk w (B_ + 1) 3 #[.int .i64 (((z + 16) : Nat) : Int)] := (hH2.has 0 rfl).blk (bl (B_ + 1) 3 #[.int .i64 (((z + 16) : Nat) : Int)]) (by simp)
  have hB1 := hcB2.lt
  clear hH
  refine cxRangeR (α := Ptz (z + 16) (q.length - 16)) (S := fun ys => ys.map (·.1) = List.range (((q.length - 16) + ((z + 16) - 1)) / (z + 16))) (Sp := fun ys => ys.map (·.1) = List.range ys.length) (N := (((q.length - 16) + ((z + 16) - 1)) / (z + 16))) (Kp := Kpz B_) (encs := fun x => pvz (z + 16) b0 off (q.length - 16) x.1) (fun (pre : List (Ptz (z + 16) (q.length - 16))) E => ∃ (A1 : Option Addr) (c1 : Nat) (L : List UInt8) (E1 : Hl) (k m : Nat), E = ([bl g1 35 #[(.pointer (some ⟨g, 0, none⟩))]]) ++ (([bl g2 23 #[(.slice none 0 0)]]) ++ (([bl g3 25 #[(.int .i64 0)]]) ++ (([bl g4 23 #[(.slice A1 L.length c1)]]) ++ (([bl g 55 (cRn.enc ((A, 32, zk), (B, 7, y), (Ai, 5, yi), k, m))]) ++ (E1))))) ∧ OwnT cByte 5 (.slice A1 L.length c1) L E1 ∧ k = pre.length ∧ L.length ≤ 20000 * k ∧ m = L.length ∧ (pre.map (·.1) = List.range k → ∃ f, q.length - opA (z + 16) (q.length - 16) k ≤ f ∧ spO K b I z f k (q.drop (opA (z + 16) (q.length - 16) k)) L = (spO K b I z q.length 0 q [])))
    (fun pre E => E = ([bl g2 23 #[(.slice none 0 0)]]) ++ ([bl g3 25 #[(.int .i64 5)]]) ∧ (pre.map (·.1) = List.range pre.length → (spO K b I z q.length 0 q []) = none)) 0 hH2 rfl (enters_of Tryz.func28 (by kernel_rfl) rfl) (chkz_stops 2 B_ b0 off (q.length - 16) yq (z + 16) Aq w (by omega) (by omega) (by omega) hA (by omega) (by omega) hcB1 hcB2) (fun h k => h.trans k)
    (fun W l' o o' hl _ _ _ => ⟨World.putObj_heap_other (by omega), World.putObj_heap_other (by omega)⟩)
    (fun W W' h h' => ⟨(h'.blk (bl B_ 23 #[.slice Aq (q.length - 16) yq]) (by simp)).trans (h.blk (bl B_ 23 #[.slice Aq (q.length - 16) yq]) (by simp)).symm, (h'.blk (bl (B_ + 1) 3 #[.int .i64 (((z + 16) : Nat) : Int)]) (by simp)).trans (h.blk (bl (B_ + 1) 3 #[.int .i64 (((z + 16) : Nat) : Int)]) (by simp)).symm⟩)
    (fun x hx => by simp only [List.flatten_cons, List.flatten_nil, List.append_nil, List.mem_cons, List.not_mem_nil, or_false] at hx; rcases hx with rfl | rfl <;> rfl)
    (fun pre E ⟨A1, c1, L, E1, k, m, h, hO, _⟩ => by subst h; exact .app .bl (.app .bl (.app .bl (.app .bl (.app .bl hO.allCells))))) (fun pre E ⟨h, _⟩ => by subst h; exact .app .bl .bl)
    ⟨none, 0, [], [], 0, 0, rfl, OwnT.nil _ _, rfl, Nat.le_refl _, rfl, fun _ => ⟨q.length, by omega, by rw [show opA (z + 16) (q.length - 16) 0 = 0 from by unfold opA; rw [Nat.mul_zero, Nat.zero_min], List.drop_zero]⟩⟩ rfl (by decide) (fun a W v h => opAssign rfl h) rfl (fun _ => rfl) rfl rfl (by decide) ?_ ?_ ?_
  rintro pre x E W lp ⟨A1, c1, L, E1, k, m, rfl, hO, hk, hLl, hm, hT⟩ hlen hH
  have hVs := hH.vu hR.2.2.2.2.2.1 (by decide) hR.2.2.2.2.2.2
  have hV := partz_vu (hVs.head (m := q.length - 16) (by omega)) hA x.2
  have hoS : Off Aq q.length (bks (([bl g1 35 #[(.pointer (some ⟨g, 0, none⟩))]]) ++ (([bl g2 23 #[(.slice none 0 0)]]) ++ (([bl g3 25 #[(.int .i64 0)]]) ++ (([bl g4 23 #[(.slice A1 L.length c1)]]) ++ (([bl g 55 (cRn.enc ((A, 32, zk), (B, 7, y), (Ai, 5, yi), k, m))]) ++ (E1))))))) := hH.off 1 rfl hR.2.2.2.2.2.1 (by decide) hR.2.2.2.2.2.2
  have hpl := plz_le (z := z + 16) (n := q.length - 16) (i := x.1)
  have hx2 := x.2
  have hpl2 : plz (z + 16) (q.length - 16) x.1 ≤ q.length := by unfold plz; omega
  have hVK := hH.vu hR.2.2.1.1 (by decide) hR.2.2.1.2
  have hoK : Off A 32 (bks (([bl g1 35 #[(.pointer (some ⟨g, 0, none⟩))]]) ++ (([bl g2 23 #[(.slice none 0 0)]]) ++ (([bl g3 25 #[(.int .i64 0)]]) ++ (([bl g4 23 #[(.slice A1 L.length c1)]]) ++ (([bl g 55 (cRn.enc ((A, 32, zk), (B, 7, y), (Ai, 5, yi), k, m))]) ++ (E1))))))) := hH.off 1 rfl hR.2.2.1.1 (by decide) hR.2.2.1.2
  have hVB := hH.vu hR.2.2.2.1.1 (by decide) hR.2.2.2.1.2
  have hoB : Off B 7 (bks (([bl g1 35 #[(.pointer (some ⟨g, 0, none⟩))]]) ++ (([bl g2 23 #[(.slice none 0 0)]]) ++ (([bl g3 25 #[(.int .i64 0)]]) ++ (([bl g4 23 #[(.slice A1 L.length c1)]]) ++ (([bl g 55 (cRn.enc ((A, 32, zk), (B, 7, y), (Ai, 5, yi), k, m))]) ++ (E1))))))) := hH.off 1 rfl hR.2.2.2.1.1 (by decide) hR.2.2.2.1.2
  have hVI := hH.vu hR.2.2.2.2.1.1 (by decide) hR.2.2.2.2.1.2
  have hoI : Off Ai 5 (bks (([bl g1 35 #[(.pointer (some ⟨g, 0, none⟩))]]) ++ (([bl g2 23 #[(.slice none 0 0)]]) ++ (([bl g3 25 #[(.int .i64 0)]]) ++ (([bl g4 23 #[(.slice A1 L.length c1)]]) ++ (([bl g 55 (cRn.enc ((A, 32, zk), (B, 7, y), (Ai, 5, yi), k, m))]) ++ (E1))))))) := hH.off 1 rfl hR.2.2.2.2.1.1 (by decide) hR.2.2.2.2.1.2
  have hbx := hH.oldBlk hR.1 hb0
  have hbn := hH.freshR 1 rfl (blk_lt hR.1) hb0
  have hdb := hH.oldBlk hR.2.1 hd0
  have hdn := hH.freshR 1 rfl (blk_lt hR.2.1) hd0
  have hkN : k < 20000 := by rw [hk]; exact Nat.lt_of_lt_of_le hlen (Nat.le_trans hcn (by omega))
  have hple := hV.len
  replace hH : HH W (bks (([bl g1 35 #[(.pointer (some ⟨g, 0, none⟩))]]) ++ (([bl g2 23 #[(.slice none 0 0)]]) ++ (([bl g3 25 #[(.int .i64 0)]]) ++ (([bl g4 23 #[(.slice A1 L.length c1)]]) ++ (([bl g 55 (cRn.enc ((A, 32, zk), (B, 7, y), (Ai, 5, yi), k, m))]) ++ (E1))))))) [[bl g1 35 #[(.pointer (some ⟨g, 0, none⟩))]], [bl g2 23 #[(.slice none 0 0)]], [bl g3 25 #[(.int .i64 0)]], [bl g4 23 #[(.slice A1 L.length c1)]], [bl g 55 (cRn.enc ((A, 32, zk), (B, 7, y), (Ai, 5, yi), k, m))], E1] W := ((hH.has 1 rfl).start).cast (by simp)
  clear hH2 hcB1 hcB2 hB1
  obtain ⟨w0, rfl⟩ : ∃ u, u = W := ⟨_, rfl⟩
  show CXi lp _ _ _ ⟨45, []⟩ [(10, (.slice (some ⟨b0, off + (z + 16) * x.1, none⟩) (plz (z + 16) (q.length - 16) x.1) (plz (z + 16) (q.length - 16) x.1))), (23, (.func (.func 28) #[] #[(.pointer (some ⟨B_, 0, none⟩)), (.pointer (some ⟨(B_ + 1), 0, none⟩))])), (9, (.pointer (some ⟨g4, 0, none⟩))), (8, (.int .i64 ((((q.length - 16)) : Nat) : Int))), (7, (.pointer (some ⟨g3, 0, none⟩))), (6, (.pointer (some ⟨g2, 0, none⟩))), (3, (.pointer (some ⟨g1, 0, none⟩))), (1, (.slice Aq q.length yq))] _
  refine cxBlockI ?_
  refine zrI ?_
  refine zs (hH.q 0 rfl) .lc 202 ?_
  refine zv .mv 2 ?_
  refine ze 4 hH rfl (.call Tryz.func39 ((open_s g A zk K B y b Ai yi I k m (some ⟨b0, off + (z + 16) * x.1, none⟩) (plz (z + 16) (q.length - 16) x.1) (plz (z + 16) (q.length - 16) x.1) ((((q.take (q.length - 16)).drop ((z + 16) * x.1)).take (z + 16))) (by omega) (by omega) (by omega)))) (⟨(hH.oldBlk hbx hbn), (hH.oldBlk hdb hdn), ⟨(hH.vu hVK (by decide) hoK), (hH.off 4 rfl hVK (by decide) hoK)⟩, ⟨(hH.vu hVB (by decide) hoB), (hH.off 4 rfl hVB (by decide) hoB)⟩, ⟨(hH.vu hVI (by decide) hoI), (hH.off 4 rfl hVI (by decide) hoI)⟩, (hH.vu hV (by decide) (fun _ _ e _ => by cases e; exact hoS b0 off (hA (by omega)) (by omega))), (hH.off 4 rfl hV (by decide) (fun _ _ e _ => by cases e; exact hoS b0 off (hA (by omega)) (by omega)))⟩) 3 ?_
  clear hH
  rintro _ _ w ⟨s_, Es, rfl, rfl, hS_⟩ hH
  replace hH : HH w0 (bks (([bl g1 35 #[(.pointer (some ⟨g, 0, none⟩))]]) ++ (([bl g2 23 #[(.slice none 0 0)]]) ++ (([bl g3 25 #[(.int .i64 0)]]) ++ (([bl g4 23 #[(.slice A1 L.length c1)]]) ++ (([bl g 55 (cRn.enc ((A, 32, zk), (B, 7, y), (Ai, 5, yi), k, m))]) ++ (E1))))))) [[bl g1 35 #[(.pointer (some ⟨g, 0, none⟩))]], [bl g2 23 #[(.slice none 0 0)]], [bl g3 25 #[(.int .i64 0)]], [bl g4 23 #[(.slice A1 L.length c1)]], [bl g 55 (cRn.enc ((A, 32, zk), (B, 7, y), (Ai, 5, yi), (opI K (spN b k) I ((((q.take (q.length - 16)).drop ((z + 16) * x.1)).take (z + 16))) k), (m + (opR K (spN b k) I ((((q.take (q.length - 16)).drop ((z + 16) * x.1)).take (z + 16)))).length)))], Es, E1] w := hH.cast (by simp)
  obtain ⟨As, cs, rfl⟩ := hS_.slice
  refine zv .mv 1 ?_
  refine zv .ext 0 ?_
  refine zv .ext 2 ?_
  refine zv .mv 2 ?_
  refine zv .mv 2 ?_
  refine znI ?_
  refine cxSeqI ?_
  have hrl := opR_len (K := K) (N := spN b k) (A := I) (S := ((((q.take (q.length - 16)).drop ((z + 16) * x.1)).take (z + 16))))
  refine zrI ?_
  refine zv .mv 0 ?_
  refine zv (.ne ((opE K (spN b k) I ((((q.take (q.length - 16)).drop ((z + 16) * x.1)).take (z + 16)))) ≠ 0)) 1 ?_
  refine znI ?_
  refine zPI (fun hc5 => ?_) (fun hc5 => ?_)
  refine zrI ?_
  refine zv .mv 15 ?_
  refine ze0 1 hH rfl .sc trivial ?_
  clear hH
  rintro _ _ w rfl hH
  refine ze0 2 hH rfl .sc trivial ?_
  clear hH
  rintro _ _ w rfl hH
  refine znI ?_
  refine cxRetI ?_
  refine qxThenR ?_
  refine qxInR ?_
  replace hH : HH w0 (bks (([bl g1 35 #[(.pointer (some ⟨g, 0, none⟩))]]) ++ (([bl g2 23 #[(.slice none 0 0)]]) ++ (([bl g3 25 #[(.int .i64 0)]]) ++ (([bl g4 23 #[(.slice A1 L.length c1)]]) ++ (([bl g 55 (cRn.enc ((A, 32, zk), (B, 7, y), (Ai, 5, yi), k, m))]) ++ (E1))))))) [[bl g2 23 #[(.slice none 0 0)]], [bl g3 25 #[(.int .i64 ((((opE K (spN b k) I ((((q.take (q.length - 16)).drop ((z + 16) * x.1)).take (z + 16))))) : Nat) : Int))]]] w := hH.only [false, true, true, false, false, false, false]
  rw [opE_5 hc5] at hH
  exact fun _ _ => ⟨_, ⟨rfl, fun h => openret hq16 hk hT x.2 h (opE_1 hc5)⟩, by simpa [HH] using hH⟩
  refine cxSkipI ?_
  refine qxThenI ?_
  refine cxRegI ?_
  refine zs (hH.q 3 rfl) .lc 51 ?_
  refine zv .mv 2 ?_
  refine ze 6 hH rfl (fun _ hF => smAppT (C := cByte) (l := L) (m := (opR K (spN b k) I ((((q.take (q.length - 16)).drop ((z + 16) * x.1)).take (z + 16))))) (e := 5) (z := (.int .u8 0)) (by_ := 1) rfl (by kernel_rfl) (by kernel_rfl) rfl (ltb rfl) (hF.ev 1 rfl) hO (hF.ev 0 rfl) rfl hS_.nilA (by unfold maxLen; omega) (by omega)) (hS_.vuAt (hH.has 5 rfl)) 3 ?_
  clear hH
  rintro v8 E9 w ⟨hO10, _⟩ hH
  replace hO10 : OwnT cByte 5 v8 (L ++ (opR K (spN b k) I ((((q.take (q.length - 16)).drop ((z + 16) * x.1)).take (z + 16))))) E9 := hO10
  obtain ⟨A6, c7, rfl⟩ := hO10.slice
  refine ze0 3 hH rfl .sc trivial ?_
  clear hH
  rintro _ _ w rfl hH
  refine pxEndI ?_
  refine qxInN ?_
  replace hH : HH w0 (bks (([bl g1 35 #[(.pointer (some ⟨g, 0, none⟩))]]) ++ (([bl g2 23 #[(.slice none 0 0)]]) ++ (([bl g3 25 #[(.int .i64 0)]]) ++ (([bl g4 23 #[(.slice A1 L.length c1)]]) ++ (([bl g 55 (cRn.enc ((A, 32, zk), (B, 7, y), (Ai, 5, yi), k, m))]) ++ (E1))))))) [[bl g1 35 #[(.pointer (some ⟨g, 0, none⟩))]], [bl g2 23 #[(.slice none 0 0)]], [bl g3 25 #[(.int .i64 0)]], [bl g4 23 #[(.slice A6 ((L ++ (opR K (spN b k) I ((((q.take (q.length - 16)).drop ((z + 16) * x.1)).take (z + 16))))).length) c7)]], [bl g 55 (cRn.enc ((A, 32, zk), (B, 7, y), (Ai, 5, yi), (opI K (spN b k) I ((((q.take (q.length - 16)).drop ((z + 16) * x.1)).take (z + 16))) k), (m + (opR K (spN b k) I ((((q.take (q.length - 16)).drop ((z + 16) * x.1)).take (z + 16)))).length)))], E9] w := hH.only [true, true, true, true, true, false, true]
  obtain ⟨hkk, hrr, hii⟩ := opE_0 hc5 k
  rw [hii] at hH
  exact fun _ _ => ⟨_, ⟨A6, c7, (L ++ (opR K (spN b k) I ((((q.take (q.length - 16)).drop ((z + 16) * x.1)).take (z + 16))))), E9, k + 1, m + (opR K (spN b k) I ((((q.take (q.length - 16)).drop ((z + 16) * x.1)).take (z + 16)))).length, rfl, hO10, by rw [List.length_append, List.length_singleton, hk], by rw [List.length_append]; omega, by rw [List.length_append, hm], fun h => by rw [hrr]; exact opennxt hq16 hk hT x.2 (by rw [List.length_append, List.length_singleton, ← hk]; exact h) hkk⟩, by simpa [HH] using hH⟩
  rintro xs E D w hxs ⟨A1, c1, L, E1, k, m, rfl, hO, hk, hLl, hm, hT⟩ hH
  replace hH : HH w0 (bks ([bl g 55 (cRn.enc ((A, 32, zk), (B, 7, y), (Ai, 5, yi), 0, 0))])) [[bl B_ 23 #[.slice Aq (q.length - 16) yq], bl (B_ + 1) 3 #[.int .i64 (((z + 16) : Nat) : Int)]], [bl g1 35 #[(.pointer (some ⟨g, 0, none⟩))]], [bl g2 23 #[(.slice none 0 0)]], [bl g3 25 #[(.int .i64 0)]], [bl g4 23 #[(.slice A1 L.length c1)]], [bl g 55 (cRn.enc ((A, 32, zk), (B, 7, y), (Ai, 5, yi), k, m))], E1, [(D, .deferred (some []))]] w := hH.cast (by simp)
  clear hH2 hcB1 hcB2 hB1
  have hkN : k = (q.length - 16 + (z + 16 - 1)) / (z + 16) := by have h := congrArg List.length hxs; rw [List.length_map, List.length_range, ← hk] at h; exact h
  obtain ⟨f, hf, hW⟩ := hT (by rw [hkN]; exact hxs)
  rw [show opA (z + 16) (q.length - 16) k = q.length - 16 from Nat.min_eq_right (by rw [hkN]; exact openall (by omega))] at hW
  have hq16l : (q.drop (q.length - 16)).length = 16 := by rw [List.length_drop]; omega
  rw [spO_end (by omega)] at hW
  have hk2 : k ≤ 20000 := by rw [hkN]; exact Nat.le_trans hcn (by omega)
  have hel := spE_len K b I k m
  refine qxInN ?_
  refine qxThen ?_
  refine cxSeq ?_
  refine zx ?_
  replace hH := hH.drew
  refine rld 0 (hH.q 1 rfl) .lc 33 ?_
  refine rv 2 .mv 32 ?_
  refine rv 3 .mv 8 ?_
  refine rv 4 (v := (.slice (cutA Aq yq (q.length - 16) 1) (q.length - (q.length - 16)) (yq - (q.length - 16)))) (fun _ _ hF => opCutL (k := (q.length - 16)) (e := 5) (sz := 1) rfl (by kernel_rfl) (by kernel_rfl) (hF.ev 1 rfl) (hF.ev 0 rfl) rfl (by omega)) 3 ?_
  refine rx1k 1 ?_
  refine rm 1 hH (.call Tryz.func16 ((end_s g A zk K B y b Ai yi I k m))) (⟨(hH.blk 5 rfl), (hH.oldBlk hR.1 hb0), (hH.oldBlk hR.2.1 hd0), (hH.vu hR.2.2.1.1 (ltb rfl) hR.2.2.1.2), (hH.vu hR.2.2.2.1.1 (ltb rfl) hR.2.2.2.1.2), (hH.vu hR.2.2.2.2.1.1 (ltb rfl) hR.2.2.2.2.1.2)⟩) 2 (pgo [] (.nil _ [])) ?_
  clear hH
  rintro v15 E11 w hO12 hH
  obtain ⟨A13, c14, rfl⟩ := hO12.slice
  refine ⟨pnil, ?_⟩
  refine rx1k 5 (rpc 5 Tryz.func40 (slEq_s A13 ((spE K b I k m).length) c14 (spE K b I k m) (by omega) (cutA Aq yq (q.length - 16) 1) (q.length - (q.length - 16)) (yq - (q.length - 16)) (q.drop (q.length - 16))) (⟨(hO12.vuAt (hH.has 8 rfl)), ((hH.vu hR.2.2.2.2.2.1 (ltb rfl) hR.2.2.2.2.2.2).from (k := (q.length - 16)) (by omega))⟩) hH 3 (.nil _ []) ?_)
  clear hH
  intro w hH
  refine ⟨pnil, ?_⟩
  refine rv 6 (v := (.bool (decide (¬ ((spE K b I k m) = (q.drop (q.length - 16))))))) (fun _ _ hF => opNot rfl (hF.ev 0 rfl) decide_not.symm) 1 ?_
  refine rn ?_
  refine zP (fun hc17 => ?_) (fun hc17 => ?_)
  refine zr ?_
  refine ze0 2 hH rfl .sc trivial ?_
  clear hH
  rintro _ _ w rfl hH
  refine ze0 3 hH rfl .sc trivial ?_
  clear hH
  rintro _ _ w rfl hH
  refine zn ?_
  refine cxRet ?_
  refine qxThenR ?_
  refine qxDRet1CC 3 2 7 2 3 hH rfl rfl rfl rfl rfl rfl (by kernel_rfl) (by kernel_rfl) (fun w hH => ?_)
  have hn : (spO K b I z q.length 0 q []) = none := by rw [← hW]; unfold spL; exact if_neg fun g => hc17 (by unfold spE; rw [hm]; exact (ocS_16 hq16l).1 g)
  exact ⟨_, _, rfl, ⟨_, by rw [hn]; rfl, by rw [hn]; exact OwnT.nil _ _⟩, hH.out [false, false, false, false, false, false, false, false, false]⟩
  refine cxSkip ?_
  refine qxThen ?_
  refine zr ?_
  refine zs (hH.q 4 rfl) .lc 3 ?_
  refine ze0 2 hH rfl .sc trivial ?_
  clear hH
  rintro _ _ w rfl hH
  refine ze0 3 hH rfl .sc trivial ?_
  clear hH
  rintro _ _ w rfl hH
  refine zn ?_
  refine cxRet ?_
  refine qxDRet1CC 2 1 7 2 3 hH rfl rfl rfl rfl rfl rfl (by kernel_rfl) (by kernel_rfl) (fun w hH => ?_)
  have hn : (spO K b I z q.length 0 q []) = some L := by rw [← hW]; unfold spL; exact if_pos ((ocS_16 hq16l).2 (by have h := Decidable.not_not.1 hc17; unfold spE at h; rw [hm] at h; exact h))
  exact ⟨_, _, rfl, ⟨_, by rw [hn]; rfl, by rw [hn]; exact hO⟩, hH.out1 [false, false, false, false, false, false, true, false, false] rfl⟩
  rintro xs E D w hxs ⟨rfl, hW⟩ hH
  replace hH : HH w0 (bks ([bl g 55 (cRn.enc ((A, 32, zk), (B, 7, y), (Ai, 5, yi), 0, 0))])) [[bl B_ 23 #[.slice Aq (q.length - 16) yq], bl (B_ + 1) 3 #[.int .i64 (((z + 16) : Nat) : Int)]], [bl g2 23 #[(.slice none 0 0)]], [bl g3 25 #[(.int .i64 5)]], [(D, .deferred (some []))]] w := hH.cast (by simp)
  clear hH2 hcB1 hcB2 hB1
  replace hW := hW hxs
  refine qxInR ?_
  refine qxThenR ?_
  refine qxDRet1CC 4 3 3 1 2 hH rfl rfl rfl rfl rfl rfl (by kernel_rfl) (by kernel_rfl) (fun w hH => ?_)
  exact ⟨_, _, rfl, ⟨_, by rw [hW]; rfl, by rw [hW]; exact OwnT.nil _ _⟩, hH.out [false, false, false, false]⟩
end Go.Proofs.YtfloiekaiiapnaaGreatDoor

namespace Go.Proofs.YtfloiekaiiapnaaGreatDoor
open Go Go.RowKit
set_option maxRecDepth 100000

theorem openAll_c (g : Nat) (A : Option Addr) (zk : Nat) (K : List UInt8) (B : Option Addr) (y : Nat) (b : List UInt8) (Ai : Option Addr) (yi : Nat) (I : List UInt8) (z : Nat) (hz1 : 1 ≤ z) (hz2 : z ≤ 65536) (Aq : Option Addr) (n yq : Nat) (q : List UInt8) (hn : n ≤ 20000) : Does Tryz.prog 23 #[(.pointer (some ⟨g, 0, none⟩)), (.slice Aq n yq), (.int .i64 (((z) : Nat) : Int))] [bl g 55 (cRn.enc ((A, 32, zk), (B, 7, y), (Ai, 5, yi), 0, 0))] (fun w => w.heap[2]? = some (.cells ((cArr 256).enc boxF) 105 (0, 0)) ∧ w.heap[4]? = some (.cells ((cArr 64).enc dbF) 104 (0, 0)) ∧ (Vu cByte w A 32 zk K ∧ Off A 32 [g]) ∧ (Vu cByte w B 7 y b ∧ Off B 7 [g]) ∧ (Vu cByte w Ai 5 yi I ∧ Off Ai 5 [g]) ∧ Vu cByte w Aq n yq q ∧ Off Aq n [g]) (fun v E' => ∃ o, v = .tuple #[o, .int .i64 (((if (spO K b I z q.length 0 q []).isSome then 0 else 5) : Nat) : Int)] ∧ OwnT cByte 5 o ((spO K b I z q.length 0 q []).getD []) E') := fun w hE hR => by
  obtain rfl := hR.2.2.2.2.2.1.len
  by_cases h : q.length < 16
  · exact openAll_few g A zk K B y b Ai yi I z Aq yq q hn h w hE hR
  · exact openAll_s g A zk K B y b Ai yi I z hz1 hz2 Aq yq q hn (by omega) w hE hR
theorem Vu.cutOff {w : World} {A : Option Addr} {n m c k sz : Nat} {R : List Nat} {l : List UInt8} (hV : Vu cByte w A n c l) (h : Off A n R) (hn : 0 < n) : Off (cutA A c k sz) m R := fun b off e _ => by
  obtain ⟨g, o, rfl, _⟩ := hV.open hn
  unfold cutA at e
  split at e
  · exact h b off e hn
  · rw [Option.map_some, Addr.add_mid] at e
    injection e with e
    injection e with e1 e2
    subst e1
    exact h g o rfl hn
theorem spA_bad {S B : List UInt8} (h : hdE B ≠ 0) : spA S B = hdE B ∧ spZ S B = [] := by
  by_cases h1 : B.length < 36 ∨ (B.getD 0 0).toNat ≠ 2
  · have e := spA_1 (S := S) h1
    exact ⟨by rw [e, (hdE_2 h1).1], spZ_bad e (by decide)⟩
  · by_cases h2 : (B.getD 1 0).toNat ≠ 9 ∨ (B.getD 2 0).toNat ≠ 2 ∨ 10 < (B.getD 3 0).toNat
    · have e := spA_2 (S := S) h1 h2
      exact ⟨by rw [e, (hdE_10 h1 h2).1], spZ_bad e (by decide)⟩
    · exact absurd (hdE_0 h1 h2).1 h
theorem hd_ok {B : List UInt8} (h : hdE B = 0) : hdV B = (B.getD 3 0, cutF B 4) ∧ 36 ≤ B.length ∧ (B.getD 3 0).toNat ≤ 10 := by
  by_cases h1 : B.length < 36 ∨ (B.getD 0 0).toNat ≠ 2
  · rw [(hdE_2 h1).1] at h; cases h
  · by_cases h2 : (B.getD 1 0).toNat ≠ 9 ∨ (B.getD 2 0).toNat ≠ 2 ∨ 10 < (B.getD 3 0).toNat
    · rw [(hdE_10 h1 h2).1] at h; cases h
    · exact ⟨(hdE_0 h1 h2).2, by omega, by omega⟩
theorem spA_good {S B : List UInt8} {W : Option (List UInt8)} (h : hdE B = 0) (hW : spOpen S B = W) : spA S B = (if W.isSome then 0 else 5) ∧ spZ S B = W.getD [] := by
  by_cases h1 : B.length < 36 ∨ (B.getD 0 0).toNat ≠ 2
  · rw [(hdE_2 h1).1] at h; cases h
  · by_cases h2 : (B.getD 1 0).toNat ≠ 9 ∨ (B.getD 2 0).toNat ≠ 2 ∨ 10 < (B.getD 3 0).toNat
    · rw [(hdE_10 h1 h2).1] at h; cases h
    · cases W with
      | none => have e := spA_5 h1 h2 hW; exact ⟨e, spZ_bad e (by decide)⟩
      | some O => exact spA_0 h1 h2 hW

set_option maxHeartbeats 8000000 in
theorem opens_s (s : Nat → UInt8) (A : Option Addr) (y : Nat) (b : List UInt8) (hb : b.length ≤ 20000) : Does Tryz.prog 9 #[((cArr 32).val s), (.slice A b.length y)] [] (fun w => w.heap[1]? = some (.cells ((cWs 64).enc K32) 125 (0, 0)) ∧ w.heap[0]? = some (.cells ((cWs 8).enc H32) 115 (0, 0)) ∧ w.heap[2]? = some (.cells ((cArr 256).enc boxF) 105 (0, 0)) ∧ w.heap[4]? = some (.cells ((cArr 64).enc dbF) 104 (0, 0)) ∧ Vu cByte w A b.length y b) (fun v E' => ∃ o, v = .tuple #[o, .int .i64 ((spA (lst 32 s) b : Nat) : Int)] ∧ OwnT cByte 5 o (spZ (lst 32 s) b) E') := by
  refine does_of (fn := Tryz.f9) Tryz.func9 rfl Tryz.ntmps9 (Nat.le_of_ble_eq_true rfl) rfl ?_
  intro w0 hH hR
  replace hH : HH w0 [] [] w0 := hH.only [false]
  have hcp := hR.2.2.2.2.cap
  refine zr ?_
  refine zm hH (.bx (cArr 32) s) trivial 1 ?_
  clear hH
  rintro _ _ w ⟨g1, rfl, rfl⟩ hH
  refine zv .mv 0 ?_
  refine zv .mv 1 ?_
  refine zn ?_
  refine zr ?_
  refine zv .mv 1 ?_
  refine zc Tryz.func22 (readHead_s A b.length y b) (hH.vu hR.2.2.2.2 (by decide) (Off.nil _ _)) hH 1 ?_
  clear hH
  intro w hH
  refine zv .mv 1 ?_
  refine zv .ext 0 ?_
  refine zv .ext 2 ?_
  refine zm hH (.al cHd (0, fun _ => 0)) trivial 0 ?_
  clear hH
  rintro _ _ w ⟨g2, rfl, rfl⟩ hH
  refine ze0 1 hH rfl (.sw cHd (0, fun _ => 0) (hdV b)) trivial ?_
  clear hH
  rintro _ _ w rfl hH
  refine zv .mv 6 ?_
  refine zn ?_
  refine cxSeq ?_
  refine zr ?_
  refine zv .mv 0 ?_
  refine zv (.ne ((hdE b) ≠ 0)) 1 ?_
  refine zn ?_
  refine zP (fun hc3 => ?_) (fun hc3 => ?_)
  refine zr ?_
  refine zv .mv 31 ?_
  refine zv .mv 0 ?_
  refine zv .mv 2 ?_
  refine zn ?_
  refine cxRet ?_
  refine qxThenR ?_
  refine qxRet2 1 0 rfl rfl rfl ?_
  obtain ⟨hA, hZ⟩ := spA_bad (S := lst 32 s) hc3
  exact ⟨_, _, rfl, ⟨_, by rw [hA]; rfl, by rw [hZ]; exact OwnT.nil _ _⟩, hH.out [false, false]⟩
  refine cxSkip ?_
  refine qxThen ?_
  have he0 : hdE b = 0 := by omega
  obtain ⟨hv, h36, h10⟩ := hd_ok he0
  obtain ⟨x0, hx0⟩ : ∃ q, q = b.getD 3 0 := ⟨_, rfl⟩
  rw [← hx0] at hv h10
  rw [hv] at hH
  obtain ⟨z, hz⟩ : ∃ z, z = 64 * 2 ^ x0.toNat := ⟨_, rfl⟩
  have hzz := z_le h10
  rw [← hz] at hzz
  obtain ⟨hz1, hz2⟩ := hzz
  have hzv : Value.int .i64 ((64 * 2 ^ x0.toNat : Nat) : Int) = .int .i64 ((z : Nat) : Int) := by rw [← hz]
  obtain ⟨q, hqq⟩ : ∃ q, q = b.drop 36 := ⟨_, rfl⟩
  refine zx ?_
  replace hH := hH.drew
  refine rld 0 (hH.q 0 rfl) (.ld (cArr 32) s (fun _ hS => (holds_blk0 hS))) 11 ?_
  refine rld 1 (hH.q 1 rfl) (.ld cHd (x0, cutF b 4) (fun _ hS => (holds_blk0 hS))) 0 ?_
  refine rv 3 .mv 8 ?_
  refine rv 4 (v := (.slice (cutA A y 36 1) (b.length - 36) (y - 36))) (fun _ _ hF => opCutL (k := 36) (e := 5) (sz := 1) rfl (by kernel_rfl) (by kernel_rfl) (hF.ev 0 rfl) rfl rfl (by omega)) 1 ?_
  refine rld 5 (hH.q 1 rfl) (.ld cHd (x0, cutF b 4) (fun _ hS => (holds_blk0 hS))) 8 ?_
  refine rx1k 2 ?_
  refine rm 2 hH (.call Tryz.func11 ((begin_s s x0 (cutF b 4)))) (⟨(hH.oldBlk hR.1 (by simp)), (hH.oldBlk hR.2.1 (by simp))⟩) 12 (.keep (pgo [] (pgo [] (.nil _ [])))) ?_
  clear hH
  rintro _ _ w ⟨gr, Bk, dk, Ai, yi, Ei, Ek, rfl, rfl, hK, hI⟩ hH
  replace hH : HH w0 [] [[bl g1 22 ((cArr 32).enc s)], [bl g2 34 (cHd.enc (x0, cutF b 4))], Ei, Ek, [bl gr 55 (cRn.enc ((Bk, 32, dk), (cutA Bk dk 32 1, 7, dk - 32), (Ai, 5, yi), 0, 0))]] w := hH.cast (by simp)
  obtain ⟨Kb, hKb⟩ : ∃ q, q = spD (lst 32 s) (lst 32 (cutF b 4)) x0.toNat := ⟨_, rfl⟩
  obtain ⟨I, hIn⟩ : ∃ q, q = spI x0.toNat := ⟨_, rfl⟩
  rw [← hKb] at hK
  rw [← hIn] at hI
  have hKl : Kb.length = 39 := by rw [hKb]; exact spD_len _ _ _
  have hIl : I.length = 5 := by rw [hIn]; rfl
  have hdk := hK.capLe
  refine ⟨pcons (hH.blk 1 rfl) pnil, ?_⟩
  refine rx1k 6 (rpc 6 Tryz.func14 ((chunk_c x0 (cutF b 4) (by omega)).as hzv) trivial hH 2 (pgo [] (.nil _ [])) ?_)
  clear hH
  intro w hH
  refine ⟨pnil, ?_⟩
  refine rx1k 7 ?_
  refine re 7 4 hH rfl (.call Tryz.func23 ((openAll_c gr Bk dk (Kb.take 32) (cutA Bk dk 32 1) (dk - 32) (Kb.drop 32) Ai yi I z (by omega) (by omega) (cutA A y 36 1) (b.length - 36) (y - 36) q (by omega)))) (⟨(hH.oldBlk hR.2.2.1 (by simp)), (hH.oldBlk hR.2.2.2.1 (by simp)), ⟨((hK.vuAt (hH.has 3 rfl)).head (m := 32) (by omega)), (hH.off3 4 3 rfl rfl rfl hK).part (by decide)⟩, ⟨((hK.vuAt (hH.has 3 rfl)).from (k := 32) (by omega)), hK.cutOff (hH.off3 4 3 rfl rfl rfl hK) (by decide)⟩, ⟨(hI.vuAt (hH.has 2 rfl)), (hH.off3 4 2 rfl rfl rfl hI).part (by omega)⟩, (by rw [hqq]; exact ((hH.vu hR.2.2.2.2 (by decide) (Off.nil _ _)).from (k := 36) (by omega))), hR.2.2.2.2.cutOff (hH.off 4 rfl hR.2.2.2.2 (by decide) (Off.nil _ _)) (by omega)⟩) 7 (.nil _ []) ?_
  clear hH
  rintro _ Eo w ⟨so, rfl, hOo⟩ hH
  obtain ⟨Ao, co, rfl⟩ := hOo.slice
  refine ⟨pnil, ?_⟩
  refine rv 8 .ext 0 ?_
  refine rv 9 .ext 2 ?_
  refine rv 10 .mv 2 ?_
  refine rv 11 .mv 2 ?_
  refine rn ?_
  refine cxRet ?_
  refine qxRet2 1 0 rfl rfl rfl ?_
  have hWW : spOpen (lst 32 s) b = (spO (Kb.take 32) (Kb.drop 32) I z q.length 0 q []) := by
    unfold spOpen spKey spBeg
    rw [← hx0, show 2 ^ (6 + x0.toNat) = z from by rw [hz, Nat.pow_add], ← lst_cutk (by omega), ← hKb, ← hIn, hqq, List.length_drop]
  obtain ⟨hA, hZ⟩ := spA_good he0 hWW
  exact ⟨_, _, rfl, ⟨_, by rw [hA]; rfl, by rw [hZ]; exact hOo⟩, hH.out1 [false, false, false, false, true] rfl⟩
end Go.Proofs.YtfloiekaiiapnaaGreatDoor

namespace Go.Proofs.YtfloiekaiiapnaaGreatDoor
open Go Go.RowKit
set_option maxRecDepth 100000

set_option maxHeartbeats 8000000 in
theorem seals_l (s t : Nat → UInt8) (c : Nat) (hc : c ≤ 10) (A : Option Addr) (n y : Nat) (hn : 10000 < n) : Does Tryz.prog 7 #[((cArr 32).val s), ((cArr 32).val t), (.int .i64 (((c) : Nat) : Int)), (.slice A n y)] [] (fun _ => True) (fun v E' => v = .tuple #[.slice none 0 0, .int .i64 6] ∧ E' = []) := by
  refine does_ofM (fn := Tryz.f7) Tryz.func7 rfl Tryz.ntmps7 (Nat.le_of_ble_eq_true rfl) rfl ?_
  intro w0 hH hR
  replace hH : HH w0 [] [] w0 := hH.only [false]
  refine zr ?_
  refine zm hH (.bx (cArr 32) s) trivial 1 ?_
  clear hH
  rintro _ _ w ⟨g1, rfl, rfl⟩ hH
  refine zm hH (.bx (cArr 32) t) trivial 2 ?_
  clear hH
  rintro _ _ w ⟨g2, rfl, rfl⟩ hH
  refine zv .mv 0 ?_
  refine zv .mv 1 ?_
  refine zn ?_
  refine cxSeq ?_
  refine zr ?_
  refine zv .mv 1 ?_
  refine zv (v := (.bool false)) (fun _ _ hF => opLss rfl (hF.ev 0 rfl) rfl (decide_eq_false (by omega))) 1 ?_
  refine zv .mv 1 ?_
  refine pxV (v := (.int .i64 (((c) : Nat) : Int))) (fun _ _ hF => opMove rfl (hF.ev 3 rfl)) rfl (gOn 0 rfl rfl rfl (by decide)) (kA rfl) (by decide) ?_
  refine pxV (v := (.bool false)) (fun _ _ hF => opGtr rfl (hF.ev 0 rfl) rfl (decide_eq_false (by omega))) rfl (gOn 1 rfl rfl rfl (by decide)) (kM [false, true, true, true, true, true] rfl rfl) (by decide) ?_
  refine zv (v := (.bool false)) (fun _ _ hF => opPickF rfl (hF.ev 1 rfl) (hF.ev 0 rfl)) 3 ?_
  refine zn ?_
  refine zF ?_
  refine cxSkip ?_
  refine qxThen ?_
  refine cxSeq ?_
  refine zr ?_
  refine zv .mv 1 ?_
  refine zv .len 1 ?_
  refine zv (v := (.bool true)) (fun _ _ hF => opGtr rfl (hF.ev 0 rfl) rfl (decide_eq_true (by omega))) 1 ?_
  refine zn ?_
  refine zT ?_
  refine zr ?_
  refine zv .mv 31 ?_
  refine zv .mv 0 ?_
  refine zn ?_
  refine cxRet ?_
  refine qxThenR ?_
  refine qxMRet2 1 0 rfl rfl rfl ?_
  exact ⟨_, _, rfl, ⟨rfl, rfl⟩, hH.out [false, false]⟩

set_option maxHeartbeats 8000000 in
theorem seals_e (s t : Nat → UInt8) (c : Int) (hc : c < 0) (A : Option Addr) (n y : Nat) : Does Tryz.prog 7 #[((cArr 32).val s), ((cArr 32).val t), (.int .i64 (c)), (.slice A n y)] [] (fun _ => True) (fun v E' => v = .tuple #[.slice none 0 0, .int .i64 1] ∧ E' = []) := by
  refine does_ofM (fn := Tryz.f7) Tryz.func7 rfl Tryz.ntmps7 (Nat.le_of_ble_eq_true rfl) rfl ?_
  intro w0 hH hR
  replace hH : HH w0 [] [] w0 := hH.only [false]
  refine zr ?_
  refine zm hH (.bx (cArr 32) s) trivial 1 ?_
  clear hH
  rintro _ _ w ⟨g1, rfl, rfl⟩ hH
  refine zm hH (.bx (cArr 32) t) trivial 2 ?_
  clear hH
  rintro _ _ w ⟨g2, rfl, rfl⟩ hH
  refine zv .mv 0 ?_
  refine zv .mv 1 ?_
  refine zn ?_
  refine cxSeq ?_
  refine zr ?_
  refine zv .mv 1 ?_
  refine zv (v := (.bool true)) (fun _ _ hF => opLss rfl (hF.ev 0 rfl) rfl (decide_eq_true (by omega))) 1 ?_
  refine zv .mv 1 ?_
  refine pxU rfl (gOff 0 rfl rfl rfl (by decide)) (kA rfl) (by decide) ?_
  refine pxU rfl (gOff 0 rfl rfl rfl (by decide)) (kA rfl) (by decide) ?_
  refine zv (v := (.bool true)) (fun _ _ hF => opPickT rfl (hF.ev 0 rfl) rfl) 1 ?_
  refine zn ?_
  refine zT ?_
  refine zr ?_
  refine zv .mv 31 ?_
  refine zv .mv 0 ?_
  refine zn ?_
  refine cxRet ?_
  refine qxThenR ?_
  refine qxMRet2 1 0 rfl rfl rfl ?_
  exact ⟨_, _, rfl, ⟨rfl, rfl⟩, hH.out [false, false]⟩

set_option maxHeartbeats 8000000 in
theorem seals_g (s t : Nat → UInt8) (c : Int) (hc : 0 ≤ c ∧ 10 < c) (A : Option Addr) (n y : Nat) : Does Tryz.prog 7 #[((cArr 32).val s), ((cArr 32).val t), (.int .i64 (c)), (.slice A n y)] [] (fun _ => True) (fun v E' => v = .tuple #[.slice none 0 0, .int .i64 1] ∧ E' = []) := by
  refine does_ofM (fn := Tryz.f7) Tryz.func7 rfl Tryz.ntmps7 (Nat.le_of_ble_eq_true rfl) rfl ?_
  intro w0 hH hR
  replace hH : HH w0 [] [] w0 := hH.only [false]
  refine zr ?_
  refine zm hH (.bx (cArr 32) s) trivial 1 ?_
  clear hH
  rintro _ _ w ⟨g1, rfl, rfl⟩ hH
  refine zm hH (.bx (cArr 32) t) trivial 2 ?_
  clear hH
  rintro _ _ w ⟨g2, rfl, rfl⟩ hH
  refine zv .mv 0 ?_
  refine zv .mv 1 ?_
  refine zn ?_
  refine cxSeq ?_
  refine zr ?_
  refine zv .mv 1 ?_
  refine zv (v := (.bool false)) (fun _ _ hF => opLss rfl (hF.ev 0 rfl) rfl (decide_eq_false (by omega))) 1 ?_
  refine zv .mv 1 ?_
  refine pxV (v := (.int .i64 (c))) (fun _ _ hF => opMove rfl (hF.ev 3 rfl)) rfl (gOn 0 rfl rfl rfl (by decide)) (kA rfl) (by decide) ?_
  refine pxV (v := (.bool true)) (fun _ _ hF => opGtr rfl (hF.ev 0 rfl) rfl (decide_eq_true (by omega))) rfl (gOn 1 rfl rfl rfl (by decide)) (kM [false, true, true, true, true, true] rfl rfl) (by decide) ?_
  refine zv (v := (.bool true)) (fun _ _ hF => opPickF rfl (hF.ev 1 rfl) (hF.ev 0 rfl)) 3 ?_
  refine zn ?_
  refine zT ?_
  refine zr ?_
  refine zv .mv 31 ?_
  refine zv .mv 0 ?_
  refine zn ?_
  refine cxRet ?_
  refine qxThenR ?_
  refine qxMRet2 1 0 rfl rfl rfl ?_
  exact ⟨_, _, rfl, ⟨rfl, rfl⟩, hH.out [false, false]⟩

/-- What sealing answers, whatever c and the bytes. -/
def slE (c : Int) (p : List UInt8) : Nat := if c < 0 ∨ 10 < c then 1 else if 10000 < p.length then 6 else 0
def slB (s t : Nat → UInt8) (c : Int) (p : List UInt8) : List UInt8 := if slE c p = 0 then spBody (lst 32 s) (lst 32 t) c.toNat p else []
theorem slE_1 {c : Int} {p : List UInt8} (h : c < 0 ∨ 10 < c) : slE c p = 1 := if_pos h
theorem slE_6 {c : Int} {p : List UInt8} (h : ¬ (c < 0 ∨ 10 < c)) (h2 : ¬ p.length ≤ 10000) : slE c p = 6 := by unfold slE; rw [if_neg h, if_pos (by omega)]
theorem slE_0 {c : Int} {p : List UInt8} (h : ¬ (c < 0 ∨ 10 < c)) (h2 : p.length ≤ 10000) : slE c p = 0 := by unfold slE; rw [if_neg h, if_neg (by omega)]
theorem slE_ok {c : Int} {p : List UInt8} (h : slE c p = 0) : ¬ (c < 0 ∨ 10 < c) ∧ p.length ≤ 10000 := by
  by_cases h1 : c < 0 ∨ 10 < c
  · rw [slE_1 h1] at h; cases h
  · by_cases h2 : p.length ≤ 10000
    · exact ⟨h1, h2⟩
    · rw [slE_6 h1 h2] at h; cases h
theorem slB_no {s t : Nat → UInt8} {c : Int} {p : List UInt8} (h : slE c p ≠ 0) : slB s t c p = [] := if_neg h
theorem slB_ok {s t : Nat → UInt8} {k : Nat} {p : List UInt8} (h : slE (k : Int) p = 0) : slB s t (k : Int) p = spBody (lst 32 s) (lst 32 t) k p := if_pos h

theorem sealN_c (s t : Nat → UInt8) (c : Int) (A : Option Addr) (n y : Nat) (p : List UInt8) : Does Tryz.prog 7 #[((cArr 32).val s), ((cArr 32).val t), (.int .i64 c), (.slice A n y)] [] (fun w => w.heap[1]? = some (.cells ((cWs 64).enc K32) 125 (0, 0)) ∧ w.heap[0]? = some (.cells ((cWs 8).enc H32) 115 (0, 0)) ∧ w.heap[2]? = some (.cells ((cArr 256).enc boxF) 105 (0, 0)) ∧ w.heap[4]? = some (.cells ((cArr 64).enc dbF) 104 (0, 0)) ∧ Vu cByte w A n y p) (fun v E' => ∃ b, v = .tuple #[b, .int .i64 ((slE c p : Nat) : Int)] ∧ OwnT cByte 5 b (slB s t c p) E') := fun w hE hR => by
  obtain rfl := hR.2.2.2.2.len
  by_cases hc : c < 0 ∨ 10 < c
  · rw [slE_1 hc, slB_no (by rw [slE_1 hc]; decide)]
    rcases (show c < 0 ∨ (0 ≤ c ∧ 10 < c) by omega) with hc1 | hc1
    · refine (seals_e s t c hc1 A p.length y w hE trivial).mono ?_
      rintro e w' ⟨v, E', he, ⟨rfl, rfl⟩, hh⟩
      exact ⟨_, _, he, ⟨_, rfl, OwnT.nil _ _⟩, hh⟩
    · refine (seals_g s t c hc1 A p.length y w hE trivial).mono ?_
      rintro e w' ⟨v, E', he, ⟨rfl, rfl⟩, hh⟩
      exact ⟨_, _, he, ⟨_, rfl, OwnT.nil _ _⟩, hh⟩
  · obtain ⟨k, rfl⟩ : ∃ k : Nat, c = (k : Int) := ⟨c.toNat, by omega⟩
    by_cases hp : p.length ≤ 10000
    · have e0 : slE (k : Int) p = 0 := slE_0 hc hp
      rw [e0, slB_ok e0]
      exact seals_s s t k (by omega) A y p hp w hE hR
    · rw [slE_6 hc hp, slB_no (by rw [slE_6 hc hp]; decide)]
      refine (seals_l s t k (by omega) A p.length y (by omega) w hE trivial).mono ?_
      rintro e w' ⟨v, E', he, ⟨rfl, rfl⟩, hh⟩
      exact ⟨_, _, he, ⟨_, rfl, OwnT.nil _ _⟩, hh⟩

theorem rsealN_c (s t : Nat → UInt8) (c : Int) (A : Option Addr) (n y : Nat) (p : List UInt8) : Does Tryz.prog 8 #[((cArr 32).val s), ((cArr 32).val t), (.int .i64 c), (.slice A n y)] [] (fun w => Vu cByte w A n y p) (fun v E' => ∃ b, v = .tuple #[b, .int .i64 ((slE c p : Nat) : Int)] ∧ OwnT cByte 5 b (slB s t c p) E') := fun w hE hR => by
  obtain rfl := hR.len
  by_cases hc : c < 0 ∨ 10 < c
  · rw [slE_1 hc, slB_no (by rw [slE_1 hc]; decide)]
    refine (rsealb_e s t c hc A p.length y w hE trivial).mono ?_
    rintro e w' ⟨v, E', he, ⟨rfl, rfl⟩, hh⟩
    exact ⟨_, _, he, ⟨_, rfl, OwnT.nil _ _⟩, hh⟩
  · obtain ⟨k, rfl⟩ : ∃ k : Nat, c = (k : Int) := ⟨c.toNat, by omega⟩
    by_cases hp : p.length ≤ 10000
    · have e0 : slE (k : Int) p = 0 := slE_0 hc hp
      rw [e0, slB_ok e0]
      exact rsealb_c s t k (by omega) A y p hp w hE hR
    · rw [slE_6 hc hp, slB_no (by rw [slE_6 hc hp]; decide)]
      refine (rsealb_l s t k (by omega) A p.length y (by omega) w hE trivial).mono ?_
      rintro e w' ⟨v, E', he, ⟨rfl, rfl⟩, hh⟩
      exact ⟨_, _, he, ⟨_, rfl, OwnT.nil _ _⟩, hh⟩

theorem openN_c (s : Nat → UInt8) (A : Option Addr) (n y : Nat) (b : List UInt8) (hb : b.length ≤ 20000) : Does Tryz.prog 9 #[((cArr 32).val s), (.slice A n y)] [] (fun w => w.heap[1]? = some (.cells ((cWs 64).enc K32) 125 (0, 0)) ∧ w.heap[0]? = some (.cells ((cWs 8).enc H32) 115 (0, 0)) ∧ w.heap[2]? = some (.cells ((cArr 256).enc boxF) 105 (0, 0)) ∧ w.heap[4]? = some (.cells ((cArr 64).enc dbF) 104 (0, 0)) ∧ Vu cByte w A n y b) (fun v E' => ∃ o, v = .tuple #[o, .int .i64 ((spA (lst 32 s) b : Nat) : Int)] ∧ OwnT cByte 5 o (spZ (lst 32 s) b) E') := fun w hE hR => by
  obtain rfl := hR.2.2.2.2.len
  exact opens_s s A y b hb w hE hR
theorem ropenN_c (s : Nat → UInt8) (A : Option Addr) (n y : Nat) (b : List UInt8) (hb : b.length ≤ 20000) : Does Tryz.prog 10 #[((cArr 32).val s), (.slice A n y)] [] (fun w => Vu cByte w A n y b) (fun v E' => ∃ o, v = .tuple #[o, .int .i64 ((spA (lst 32 s) b : Nat) : Int)] ∧ OwnT cByte 5 o (spZ (lst 32 s) b) E') := fun w hE hR => by
  obtain rfl := hR.len
  exact ropenb_c s A y b hb w hE hR
theorem spW_len (K b A : List UInt8) (z : Nat) (P : List UInt8) : ∀ n, (spW K b A z P n).length = min (z * n) P.length + 16 * n
  | 0 => by rw [spW, Nat.mul_zero, Nat.zero_min]; rfl
  | n + 1 => by
    rw [spW, List.length_append, spW_len K b A z P n, ocS_len, spK_len, Nat.mul_add z n 1, Nat.mul_one]
    omega
theorem spC_ge {z n : Nat} (hz : 0 < z) : n ≤ z * spC z n := openall hz
theorem spBody_len (S t : List UInt8) (ht : t.length = 32) (c : Nat) (P : List UInt8) : (spBody S t c P).length = 52 + P.length + 16 * spC (2 ^ (6 + c)) P.length := by
  unfold spBody spS
  have h2 := spC_ge (z := 2 ^ (6 + c)) (n := P.length) (Nat.pow_pos (by decide))
  have hm := Nat.min_eq_right h2
  simp only [List.length_append, spE_len, List.length_cons, List.length_nil, ht]
  rw [spW_len, hm]
  omega
theorem spC_64 {z n : Nat} (hz : 64 ≤ z) : 64 * spC z n ≤ n + 63 + 64 * 0 ∨ spC z n ≤ n / 64 + 1 := by
  refine .inr ?_
  by_cases h0 : spC z n = 0
  · omega
  · have h1 := (spC_lt (z := z) (n := n) (i := spC z n - 1) (by omega)).1 (by omega)
    have h2 : 64 * (spC z n - 1) ≤ z * (spC z n - 1) := Nat.mul_le_mul_right _ hz
    omega
theorem slB_len {s t : Nat → UInt8} {c : Int} {p : List UInt8} (hp : p.length ≤ 12000) : (slB s t c p).length ≤ 20000 := by
  by_cases h : slE c p = 0
  · obtain ⟨h1, h2⟩ := slE_ok h
    obtain ⟨k, rfl⟩ : ∃ k : Nat, c = (k : Int) := ⟨c.toNat, by omega⟩
    rw [slB_ok h, spBody_len _ _ (lst_len _ _)]
    have h3 : 64 ≤ 2 ^ (6 + k) := by
      rw [Nat.pow_add]
      have := Nat.one_le_two_pow (n := k)
      omega
    rcases spC_64 (n := p.length) h3 with h4 | h4 <;> omega
  · rw [slB_no h]
    exact Nat.zero_le _
set_option maxHeartbeats 8000000 in
theorem aw16_c  : Pure Tryz.prog 6 #[] (fun w => w.heap[1]? = some (.cells ((cWs 64).enc K32) 125 (0, 0)) ∧ w.heap[0]? = some (.cells ((cWs 8).enc H32) 115 (0, 0)) ∧ w.heap[2]? = some (.cells ((cArr 256).enc boxF) 105 (0, 0)) ∧ w.heap[4]? = some (.cells ((cArr 64).enc dbF) 104 (0, 0))) (.bool true) := by
  refine pure_of (fn := Tryz.f6) Tryz.func6 rfl Tryz.ntmps6 (Nat.le_of_ble_eq_true rfl) rfl ?_
  intro w0 hH hR
  refine zr ?_
  refine zv .mv 0 ?_
  refine zn ?_
  refine zr ?_
  refine zv (v := ((cArr 32).val (fun _ => 0))) (fun _ _ hF => opBuildP (cells := (cArr 32).enc (fun _ => 0)) (vals := []) rfl EvP.nil (by kernel_rfl) _) 1 ?_
  refine zv (v := ((cArr 32).val (fun _ => 0))) (fun _ _ hF => opBuildP (cells := (cArr 32).enc (fun _ => 0)) (vals := []) rfl EvP.nil (by kernel_rfl) _) 0 ?_
  refine zm hH (.call Tryz.func7 ((sealN_c (fun _ => 0) (fun _ => 0) 0 none 0 0 ([])))) (⟨(hH.oldBlk hR.1 (by simp)), (hH.oldBlk hR.2.1 (by simp)), (hH.oldBlk hR.2.2.1 (by simp)), (hH.oldBlk hR.2.2.2 (by simp)), (Vu.none cByte _)⟩) 3 ?_
  clear hH
  rintro _ E1 w ⟨s5, rfl, hO2⟩ hH
  obtain ⟨A3, c4, rfl⟩ := hO2.slice
  refine zv .mv 1 ?_
  refine zv .ext 0 ?_
  refine zv .ext 2 ?_
  refine zv .mv 2 ?_
  refine zv .mv 2 ?_
  refine zn ?_
  have he0 : slE 0 [] = 0 := rfl
  have hl0 : (slB (fun _ => 0) (fun _ => 0) 0 []).length = 52 := by rw [show (0 : Int) = ((0 : Nat) : Int) from rfl, slB_ok (by exact he0), spBody_len _ _ (lst_len _ _)]; rfl
  refine zr ?_
  refine zv .mv 1 ?_
  refine zv (v := (.bool true)) (fun _ _ hF => opEqI rfl (hF.ev 0 rfl) rfl (decide_eq_true (by rw [he0]; rfl))) 1 ?_
  refine zv .mv 1 ?_
  refine pxV (v := (.slice A3 ((slB (fun _ => 0) (fun _ => 0) 0 ([])).length) c4)) (fun _ _ hF => opMove rfl (hF.ev 1 rfl)) rfl (gOn 0 rfl rfl rfl (by decide)) (kM [true, false] rfl rfl) (by decide) ?_
  refine pxV (v := (.int .i64 ((((slB (fun _ => 0) (fun _ => 0) 0 ([])).length) : Nat) : Int))) (fun _ _ hF => opLen (e := 5) rfl (by kernel_rfl) (hF.ev 0 rfl)) rfl (gOn 1 rfl rfl rfl (by decide)) (kM [false, true] rfl rfl) (by decide) ?_
  refine pxV (v := (.bool true)) (fun _ _ hF => opEqI rfl (hF.ev 0 rfl) rfl (decide_eq_true (by rw [hl0]; rfl))) rfl (gOn 1 rfl rfl rfl (by decide)) (kM [false, true] rfl rfl) (by decide) ?_
  refine zv (v := (.bool true)) (fun _ _ hF => opPickT rfl (hF.ev 1 rfl) (hF.ev 0 rfl)) 3 ?_
  refine zv .mv 1 ?_
  refine zn ?_
  refine cxRet ?_
  refine qxRet1 0 rfl rfl ?_
  exact ⟨rfl, HH.toBelow hH⟩

set_option maxHeartbeats 8000000 in
theorem opens16_c (s : Nat → UInt8) (A : Option Addr) (n c : Nat) (b : List UInt8) : Pure Tryz.prog 4 #[((cArr 32).val s), (.slice A n c)] (fun w => w.heap[1]? = some (.cells ((cWs 64).enc K32) 125 (0, 0)) ∧ w.heap[0]? = some (.cells ((cWs 8).enc H32) 115 (0, 0)) ∧ w.heap[2]? = some (.cells ((cArr 256).enc boxF) 105 (0, 0)) ∧ w.heap[4]? = some (.cells ((cArr 64).enc dbF) 104 (0, 0)) ∧ Vu cByte w A n c b) (.bool true) := by
  refine pure_of (fn := Tryz.f4) Tryz.func4 rfl Tryz.ntmps4 (Nat.le_of_ble_eq_true rfl) rfl ?_
  intro w0 hH hR
  refine zr ?_
  refine zm hH (.bx (cArr 32) s) trivial 1 ?_
  clear hH
  rintro _ _ w ⟨g1, rfl, rfl⟩ hH
  refine zv .mv 0 ?_
  refine zn ?_
  refine cxSeq ?_
  refine zr ?_
  refine zm hH (.call Tryz.func6 (aw16_c.does)) (⟨(hH.oldBlk hR.1 (by simp)), (hH.oldBlk hR.2.1 (by simp)), (hH.oldBlk hR.2.2.1 (by simp)), (hH.oldBlk hR.2.2.2.1 (by simp))⟩) 1 ?_
  clear hH
  rintro _ _ w ⟨rfl, rfl⟩ hH
  replace hH : HH w0 [] [[bl g1 22 ((cArr 32).enc s)]] w := hH.unpad
  refine zv (v := (.bool false)) (fun _ _ hF => opNot rfl (hF.ev 0 rfl) rfl) 1 ?_
  refine zv .mv 1 ?_
  refine pxV (v := (.slice A n c)) (fun _ _ hF => opMove rfl (hF.ev 2 rfl)) rfl (gOn 0 rfl rfl rfl (by decide)) (kA rfl) (by decide) ?_
  refine pxV (v := (.int .i64 (((n) : Nat) : Int))) (fun _ _ hF => opLen (e := 5) rfl (by kernel_rfl) (hF.ev 0 rfl)) rfl (gOn 1 rfl rfl rfl (by decide)) (kM [false, true, true, true] rfl rfl) (by decide) ?_
  refine pxV (v := (.bool (decide (n > 12000)))) (fun _ _ hF => opGtr rfl (hF.ev 0 rfl) rfl (dc (by omega))) rfl (gOn 1 rfl rfl rfl (by decide)) (kM [false, true, true, true] rfl rfl) (by decide) ?_
  refine zv (v := (.bool (decide (n > 12000)))) (fun _ _ hF => opPickF rfl (hF.ev 1 rfl) (hF.ev 0 rfl)) 3 ?_
  refine zn ?_
  refine zP (fun hc2 => ?_) (fun hc2 => ?_)
  refine zr ?_
  refine zm hH (.call Tryz.func6 (aw16_c.does)) (⟨(hH.oldBlk hR.1 (by simp)), (hH.oldBlk hR.2.1 (by simp)), (hH.oldBlk hR.2.2.1 (by simp)), (hH.oldBlk hR.2.2.2.1 (by simp))⟩) 7 ?_
  clear hH
  rintro _ _ w ⟨rfl, rfl⟩ hH
  replace hH : HH w0 [] [[bl g1 22 ((cArr 32).enc s)]] w := hH.unpad
  refine zv .mv 1 ?_
  refine zn ?_
  refine cxRet ?_
  refine qxThenR ?_
  refine qxRet1 0 rfl rfl ?_
  exact ⟨rfl, HH.toBelow hH⟩
  refine cxSkip ?_
  refine qxThen ?_
  have hbl := hR.2.2.2.2.len
  refine zr ?_
  refine zs (hH.q 0 rfl) (.ld (cArr 32) s (fun _ hS => (holds_blk0 hS))) 1 ?_
  refine zv .mv 0 ?_
  refine zm hH (.call Tryz.func9 ((openN_c s A n c b (by omega)))) (⟨(hH.oldBlk hR.1 (by simp)), (hH.oldBlk hR.2.1 (by simp)), (hH.oldBlk hR.2.2.1 (by simp)), (hH.oldBlk hR.2.2.2.1 (by simp)), (hH.vu hR.2.2.2.2 (by decide) (Off.nil _ _))⟩) 3 ?_
  clear hH
  rintro _ E3 w ⟨s7, rfl, hO4⟩ hH
  obtain ⟨A5, c6, rfl⟩ := hO4.slice
  refine zv .mv 1 ?_
  refine zv .ext 0 ?_
  refine zv .ext 2 ?_
  refine zv .mv 2 ?_
  refine zv .mv 2 ?_
  refine zn ?_
  refine zr ?_
  refine zs (hH.q 0 rfl) (.ld (cArr 32) s (fun _ hS => (holds_blk0 hS))) 4 ?_
  refine zv .mv 8 ?_
  refine zm hH (.call Tryz.func10 ((ropenN_c s A n c b (by omega)))) (hH.vu hR.2.2.2.2 (by decide) (Off.nil _ _)) 3 ?_
  clear hH
  rintro _ E9 w ⟨s13, rfl, hO10⟩ hH
  obtain ⟨A11, c12, rfl⟩ := hO10.slice
  refine zv .mv 1 ?_
  refine zv .ext 0 ?_
  refine zv .ext 2 ?_
  refine zv .mv 2 ?_
  refine zv .mv 2 ?_
  refine zn ?_
  refine zr ?_
  refine zv .mv 8 ?_
  refine zs (S := fun w => Vu cByte w A5 ((spZ (lst 32 s) b).length) c6 (spZ (lst 32 s) b)) (hO4.vuAt (hH.has 1 rfl)) (v := (.string (strL (spZ (lst 32 s) b)))) (fun _ _ hF hS => opStr (e := 5) rfl (by kernel_rfl) (by kernel_rfl) (by kernel_rfl) (hF.ev 0 rfl) hS) 1 ?_
  refine zv .mv 4 ?_
  refine zs (S := fun w => Vu cByte w A11 ((spZ (lst 32 s) b).length) c12 (spZ (lst 32 s) b)) (hO10.vuAt (hH.has 2 rfl)) (v := (.string (strL (spZ (lst 32 s) b)))) (fun _ _ hF hS => opStr (e := 5) rfl (by kernel_rfl) (by kernel_rfl) (by kernel_rfl) (hF.ev 0 rfl) hS) 1 ?_
  refine zv (v := (.bool true)) (fun _ _ hF => opEqLb (l := (spZ (lst 32 s) b)) (m := (spZ (lst 32 s) b)) rfl (hF.ev 1 rfl) (hF.ev 0 rfl) (decide_eq_true (rfl))) 3 ?_
  refine zv .mv 1 ?_
  refine pxV (v := (.int .i64 ((((spA (lst 32 s) b)) : Nat) : Int))) (fun _ _ hF => opMove rfl (hF.ev 2 rfl)) rfl (gOn 0 rfl rfl rfl (by decide)) (kM [true, true, false] rfl rfl) (by decide) ?_
  refine pxV (v := (.int .i64 ((((spA (lst 32 s) b)) : Nat) : Int))) (fun _ _ hF => opMove rfl (hF.ev 2 rfl)) rfl (gOn 1 rfl rfl rfl (by decide)) (kM [true, true, false] rfl rfl) (by decide) ?_
  refine pxV (v := (.bool true)) (fun _ _ hF => opEqI rfl (hF.ev 1 rfl) (hF.ev 0 rfl) (decide_eq_true (rfl))) rfl (gOn 2 rfl rfl rfl (by decide)) (kM [false, false, true] rfl rfl) (by decide) ?_
  refine zv (v := (.bool true)) (fun _ _ hF => opPickT rfl (hF.ev 1 rfl) (hF.ev 0 rfl)) 3 ?_
  refine zv .mv 1 ?_
  refine zn ?_
  refine cxRet ?_
  refine qxRet1 0 rfl rfl ?_
  exact ⟨rfl, HH.toBelow hH⟩
end Go.Proofs.YtfloiekaiiapnaaGreatDoor

namespace Go.Proofs.YtfloiekaiiapnaaGreatDoor
open Go Go.RowKit
set_option maxRecDepth 100000

theorem Vu.recap {w : World} {p : Addr} {n c c' : Nat} {l : List UInt8} (h : Vu cByte w (some p) n c l) (hc : n ≤ c') : Vu cByte w (some p) n c' l := ⟨h.len, hc, fun h => (by cases h), h.at'⟩
section
variable {P : Program} {a : Act} {o : Oper} {x y xh xm : Operand} {ty e : TypeId} {A : Option Addr} {n c h m sz : Nat} {kh km : IntKind} {jh jm : Int} {w : World}
/-- A slice with its capacity. -/
theorem opCutHM (ho : o.op = .slice ty x none (some xh) (some xm)) (hu : P.underlying ty = some (.slice e)) (hs : (P.info? e).map (·.size) = some sz) (hx : a.eval x = .slice A n c) (hh : a.eval xh = .int kh jh) (hm : a.eval xm = .int km jm) (hjh : jh = (h : Int)) (hjm : jm = (m : Int)) (h1 : h ≤ m) (h2 : m ≤ c) :
    (execOp a.eval o).run P w = .ok (.value (.slice A h m)) w := by
  subst hjh hjm
  have he := elem_of hu
  have hu' : P.underlying ty = some (.slice (P.elem ty)) := by rw [he]; exact hu
  unfold execOp
  simp only [ho, Option.map_some, Option.map_none, hx, hh, hm, Sem.run_bind, Sem.run_pure, run_sliceAt_slice w ty _ _ _ _ hu', run_slice_hm w ty A n c hu' kh km (h : Int) (m : Int) (by omega) (by omega) (by omega), he, run_sizeOf hs, Result.andThen_ok, Int.toNat_natCast, sliced_eq, cutA_zero, Nat.sub_zero]
/-- Nothing is appended. -/
theorem smAppNil {nx cx : Nat} {B : Option Addr} (ho : o.op = .call { callee := .builtin .append, args := #[x, y], argTypes := #[ty, ty] }) (hu : P.underlying ty = some (.slice e)) (hi : (P.info? e).map (·.size) = some 1) (hx : a.eval x = .slice B nx cx) (hy : a.eval y = .slice A n c) (hn : n = 0) (hcx : nx ≤ cx) :
    Small P a o [] (fun _ => True) (fun v' E' => v' = .slice B nx cx ∧ E' = []) := fun w hE _ => by
  subst hn
  obtain ⟨i, hi', _⟩ := Option.map_eq_some_iff.1 hi
  have hr : (Builtin.append_ #[ty, ty] o.type #[.slice B nx cx, .slice A 0 c]).run P w = .ok (.slice B nx cx) w := by
    cases B <;> cases A <;> simp [Builtin.append_, run_underlying hu, sizeOf, typeInfo, hi', Builtin.lenOf, Builtin.firstCells, loadCells, loadCellsFrom, storeCells, hcx]
  unfold execOp
  simp only [ho, resolve, invoke, builtin, Sem.run_bind, Sem.run_pure, Result.andThen_ok, List.map_toArray, List.map_cons, List.map_nil, hx, hy, hr]
  exact ⟨_, ⟨rfl, rfl⟩, Has.hold hE⟩
end

set_option maxHeartbeats 8000000 in
theorem turned16_c (s t : Nat → UInt8) (A : Option Addr) (n y : Nat) (p : List UInt8) (a : Nat) (v h x1 x2 : UInt8) : Pure Tryz.prog 5 #[((cArr 32).val s), ((cArr 32).val t), (.slice A n y), (.int .u64 (((a) : Nat) : Int)), (.int .u8 (((v.toNat) : Nat) : Int)), (.int .u8 (((h.toNat) : Nat) : Int)), (.int .u8 (((x1.toNat) : Nat) : Int)), (.int .u8 (((x2.toNat) : Nat) : Int))] (fun w => w.heap[1]? = some (.cells ((cWs 64).enc K32) 125 (0, 0)) ∧ w.heap[0]? = some (.cells ((cWs 8).enc H32) 115 (0, 0)) ∧ w.heap[2]? = some (.cells ((cArr 256).enc boxF) 105 (0, 0)) ∧ w.heap[4]? = some (.cells ((cArr 64).enc dbF) 104 (0, 0)) ∧ Vu cByte w A n y p) (.bool true) := by
  refine pure_of (fn := Tryz.f5) Tryz.func5 rfl Tryz.ntmps5 (Nat.le_of_ble_eq_true rfl) rfl ?_
  intro w0 hH hR
  refine zr ?_
  refine zm hH (.bx (cArr 32) s) trivial 1 ?_
  clear hH
  rintro _ _ w ⟨g1, rfl, rfl⟩ hH
  refine zm hH (.bx (cArr 32) t) trivial 2 ?_
  clear hH
  rintro _ _ w ⟨g2, rfl, rfl⟩ hH
  refine zv .mv 0 ?_
  refine zn ?_
  refine cxSeq ?_
  refine zr ?_
  refine zm hH (.call Tryz.func6 (aw16_c.does)) (⟨(hH.oldBlk hR.1 (by simp)), (hH.oldBlk hR.2.1 (by simp)), (hH.oldBlk hR.2.2.1 (by simp)), (hH.oldBlk hR.2.2.2.1 (by simp))⟩) 1 ?_
  clear hH
  rintro _ _ w ⟨rfl, rfl⟩ hH
  replace hH : HH w0 [] [[bl g1 22 ((cArr 32).enc s)], [bl g2 22 ((cArr 32).enc t)]] w := hH.unpad
  refine zv (v := (.bool false)) (fun _ _ hF => opNot rfl (hF.ev 0 rfl) rfl) 1 ?_
  refine zv .mv 1 ?_
  refine pxV (v := (.slice A n y)) (fun _ _ hF => opMove rfl (hF.ev 3 rfl)) rfl (gOn 0 rfl rfl rfl (by decide)) (kA rfl) (by decide) ?_
  refine pxV (v := (.int .i64 (((n) : Nat) : Int))) (fun _ _ hF => opLen (e := 5) rfl (by kernel_rfl) (hF.ev 0 rfl)) rfl (gOn 1 rfl rfl rfl (by decide)) (kM [false, true, true, true, true, true, true, true, true, true] rfl rfl) (by decide) ?_
  refine pxV (v := (.bool (decide (n > 3000)))) (fun _ _ hF => opGtr rfl (hF.ev 0 rfl) rfl (dc (by omega))) rfl (gOn 1 rfl rfl rfl (by decide)) (kM [false, true, true, true, true, true, true, true, true, true] rfl rfl) (by decide) ?_
  refine zv (v := (.bool (decide (n > 3000)))) (fun _ _ hF => opPickF rfl (hF.ev 1 rfl) (hF.ev 0 rfl)) 3 ?_
  refine zn ?_
  refine zP (fun hc3 => ?_) (fun hc3 => ?_)
  refine zr ?_
  refine zm hH (.call Tryz.func6 (aw16_c.does)) (⟨(hH.oldBlk hR.1 (by simp)), (hH.oldBlk hR.2.1 (by simp)), (hH.oldBlk hR.2.2.1 (by simp)), (hH.oldBlk hR.2.2.2.1 (by simp))⟩) 511 ?_
  clear hH
  rintro _ _ w ⟨rfl, rfl⟩ hH
  replace hH : HH w0 [] [[bl g1 22 ((cArr 32).enc s)], [bl g2 22 ((cArr 32).enc t)]] w := hH.unpad
  refine zv .mv 1 ?_
  refine zn ?_
  refine cxRet ?_
  refine qxThenR ?_
  refine qxRet1 0 rfl rfl ?_
  exact ⟨rfl, HH.toBelow hH⟩
  refine cxSkip ?_
  refine qxThen ?_
  have hpl := hR.2.2.2.2.len
  refine zr ?_
  refine zs (hH.q 0 rfl) (.ld (cArr 32) s (fun _ hS => (holds_blk0 hS))) 1 ?_
  refine zs (hH.q 1 rfl) (.ld (cArr 32) t (fun _ hS => (holds_blk0 hS))) 2 ?_
  refine zv .mv 8 ?_
  refine zm hH (.call Tryz.func8 ((rsealN_c s t 0 A n y p))) (hH.vu hR.2.2.2.2 (by decide) (Off.nil _ _)) 7 ?_
  clear hH
  rintro _ E4 w ⟨s8, rfl, hO5⟩ hH
  obtain ⟨A6, c7, rfl⟩ := hO5.slice
  refine zv .mv 1 ?_
  refine zv .ext 0 ?_
  refine zv .ext 2 ?_
  refine zv .mv 2 ?_
  refine zv .mv 2 ?_
  refine zn ?_
  refine cxSeq ?_
  have hx1 := x1.toNat_lt; have hx2 := x2.toNat_lt
  have he0 : slE 0 p = 0 := slE_0 (by omega) (by omega)
  refine zr ?_
  refine zv .mv 1 ?_
  refine zv (v := (.bool false)) (fun _ _ hF => opNeI rfl (hF.ev 0 rfl) rfl (decide_eq_false (by rw [he0]; exact fun h => h rfl))) 1 ?_
  refine zn ?_
  refine zF ?_
  refine cxSkip ?_
  refine qxThen ?_
  obtain ⟨B, hB⟩ : ∃ B, slB s t 0 p = B := ⟨_, rfl⟩
  have hl : 52 ≤ B.length ∧ B.length ≤ 20000 := ⟨by rw [← hB, show (0 : Int) = ((0 : Nat) : Int) from rfl, slB_ok (by exact he0), spBody_len _ _ (lst_len _ _)]; omega, by rw [← hB]; exact slB_len (by omega)⟩
  rw [hB] at hO5
  rw [hB]
  have hmod : a % B.length < B.length := Nat.mod_lt _ (by omega)
  have hcap := hO5.capLe
  obtain ⟨ch, hch⟩ : ∃ ch, ch = (B.length - 36) / 80 := ⟨_, rfl⟩
  refine zr ?_
  refine zv .mv 1 ?_
  refine zv .len 1 ?_
  refine zv (.sub ((((B.length - 36)) : Nat) : Int)) 1 ?_
  refine zv (v := (.int .i64 (((ch) : Nat) : Int))) (fun _ _ hF => opQuo rfl (hF.ev 0 rfl) rfl (by omega) (by rw [hch]; exact wI quoN (by omega) (by omega))) 1 ?_
  refine zv .mv 1 ?_
  refine zn ?_
  refine cxSeq ?_
  refine zr ?_
  refine zv .mv 32 ?_
  refine zv (v := (.int .u8 (((h.toNat % 4) : Nat) : Int))) (fun _ _ hF => opRem (z := ((h.toNat % 4 : Nat) : Int)) rfl (hF.ev 0 rfl) rfl (by omega) remN) 1 ?_
  refine zn ?_
  refine cxBlock ?_
  refine zr ?_
  refine zv (.eq (h.toNat % 4 = 0)) 0 ?_
  refine zv .mv 1 ?_
  refine zn ?_
  refine zP (fun hc10 => ?_) (fun hc10 => ?_)
  refine cxReg ?_
  refine zv .mv 391 ?_
  refine zv .mv 8 ?_
  refine zv .mv 0 ?_
  refine zv .len 1 ?_
  refine zv (.cu .u64) 1 ?_
  refine zv (v := (.int .u64 (((a % B.length) : Nat) : Int))) (fun _ _ hF => opRem (z := ((a % B.length : Nat) : Int)) rfl (hF.ev 1 rfl) (hF.ev 0 rfl) (by omega) remN) 3 ?_
  obtain ⟨g11, cap12, cur13, hv15, rfl, hB14⟩ := hO5.open (by omega)
  obtain ⟨rfl, rfl⟩ : A6 = some ⟨g11, 0, none⟩ ∧ c7 = cap12 := by injection hv15 with h1 h2 h3; exact ⟨h1, h3⟩
  have := hB14.le
  have hi16 : a % B.length < B.length := by omega
  have hj19 : a % B.length < B.length := by first | exact hi16 | (simp only [List.length_drop]; omega) | (simp only [List.length_drop, List.length_take]; omega) | omega
  obtain ⟨x17, hx18⟩ := get_at B (a % B.length) hj19
  have hb20 := UInt8.toNat_lt x17
  refine zv (.ix 1 (a % B.length) (hi := hi16)) 0 ?_
  refine zs (hH.q 2 rfl) (.ld cByte x17 (fun _ hS => ((hB14.holdsL hS) (a % B.length) _ hx18))) 1 ?_
  refine zv .mv 32 ?_
  refine zv (.pb (x17 + v) (u := x17) (v := v)) 3 ?_
  have hi21 : a % B.length < B.length := by omega
  have hj24 : a % B.length < B.length := by first | exact hi21 | (simp only [List.length_drop]; omega) | (simp only [List.length_drop, List.length_take]; omega) | omega
  obtain ⟨x22, hx23⟩ := get_at B (a % B.length) hj24
  have hb25 := UInt8.toNat_lt x22
  refine zv (.ix 1 (a % B.length) (hi := hi21)) 6 ?_
  obtain ⟨cur27, hcs28, hB26⟩ : ∃ cs, putL cur13 (0 + (a % B.length) * 1) (cByte.enc (x17 + v)).toList = cs ∧ Bk cByte c7 cs (B.set (a % B.length) (x17 + v)) := ⟨_, rfl, put_at hB14 (a % B.length) hj24 (x17 + v)⟩
  refine ze0 2 hH rfl (fun _ hF => smStoreT (C := cByte) (z := (x17 + v)) rfl (hF.ev 0 rfl) (hF.ev 1 rfl) rfl (by kernel_rfl) (room_at hB14 hj24) hcs28) trivial ?_
  clear hH
  rintro _ _ w rfl hH
  refine pxEnd ?_
  refine qxInN ?_
  refine qxThen ?_
  refine zr ?_
  refine zs (hH.q 0 rfl) (.ld (cArr 32) s (fun _ hS => (holds_blk0 hS))) 11 ?_
  refine zv .mv 2 ?_
  refine zc Tryz.func4 (opens16_c s (some ⟨g11, 0, none⟩) B.length c7 (B.set (a % B.length) (x17 + v))) (⟨(hH.oldBlk hR.1 (by simp)), (hH.oldBlk hR.2.1 (by simp)), (hH.oldBlk hR.2.2.1 (by simp)), (hH.oldBlk hR.2.2.2.1 (by simp)), (hB26.vu (n := B.length) (hH.blk 2 rfl) List.length_set)⟩) hH 3 ?_
  clear hH
  intro w hH
  refine zv .mv 1 ?_
  refine zn ?_
  refine cxRet ?_
  refine qxRet1 0 rfl rfl ?_
  exact ⟨rfl, HH.toBelow hH⟩
  refine zr ?_
  refine zv (.eq (h.toNat % 4 = 1)) 65 ?_
  refine zv .mv 1 ?_
  refine zn ?_
  refine zP (fun hc29 => ?_) (fun hc29 => ?_)
  refine cxReg ?_
  refine zv .mv 199 ?_
  refine zv .mv 8 ?_
  refine zv .mv 4 ?_
  refine zv .len 1 ?_
  refine zv (.cu .u64) 1 ?_
  refine zv (v := (.int .u64 (((a % B.length) : Nat) : Int))) (fun _ _ hF => opRem (z := ((a % B.length : Nat) : Int)) rfl (hF.ev 1 rfl) (hF.ev 0 rfl) (by omega) remN) 3 ?_
  refine zv (v := (.slice A6 (a % B.length) c7)) (fun _ _ hF => opCutH (h := a % B.length) (e := 5) (sz := 1) rfl (by kernel_rfl) (by kernel_rfl) (hF.ev 1 rfl) (hF.ev 0 rfl) rfl (by omega)) 3 ?_
  refine zv .mv 1 ?_
  refine pxEnd ?_
  refine qxInN ?_
  refine qxThen ?_
  refine zr ?_
  refine zs (hH.q 0 rfl) (.ld (cArr 32) s (fun _ hS => (holds_blk0 hS))) 2 ?_
  refine zv .mv 2 ?_
  refine zc Tryz.func4 (opens16_c s A6 (a % B.length) c7 (B.take (a % B.length))) (⟨(hH.oldBlk hR.1 (by simp)), (hH.oldBlk hR.2.1 (by simp)), (hH.oldBlk hR.2.2.1 (by simp)), (hH.oldBlk hR.2.2.2.1 (by simp)), ((hO5.vuAt (hH.has 2 rfl)).head (m := a % B.length) (by omega))⟩) hH 3 ?_
  clear hH
  intro w hH
  refine zv .mv 1 ?_
  refine zn ?_
  refine cxRet ?_
  refine qxRet1 0 rfl rfl ?_
  exact ⟨rfl, HH.toBelow hH⟩
  refine zr ?_
  refine zv (.eq (h.toNat % 4 = 2)) 35 ?_
  refine zv .mv 1 ?_
  refine zn ?_
  refine zP (fun hc30 => ?_) (fun hc30 => ?_)
  refine zr ?_
  refine zv .mv 33 ?_
  refine zv (.gt (ch > 0)) 1 ?_
  refine zn ?_
  refine zP (fun hc31 => ?_) (fun hc31 => ?_)
  obtain ⟨k, hk⟩ : ∃ k, k = 36 + 80 * (x1.toNat % ch) := ⟨_, rfl⟩
  have hmd : x1.toNat % ch < ch := Nat.mod_lt _ (by omega)
  have hkl : k + 80 ≤ B.length := by omega
  refine zr ?_
  refine zv .mv 17 ?_
  refine zv .ci 1 ?_
  refine zv .mv 2 ?_
  refine zv (v := (.int .i64 (((x1.toNat % ch) : Nat) : Int))) (fun _ _ hF => opRem (z := ((x1.toNat % ch : Nat) : Int)) rfl (hF.ev 1 rfl) (hF.ev 0 rfl) (by omega) remN) 3 ?_
  refine zv (.mul ((80 * (x1.toNat % ch) : Nat) : Int)) 1 ?_
  refine zv (.add (((k) : Nat) : Int) (hz := by rw [hk]; exact wI (by omega) (by omega) (by omega))) 1 ?_
  refine zv .mv 1 ?_
  refine zn ?_
  rcases (show B.length = k + 80 ∨ k + 80 < B.length by omega) with hr0 | hr0
  obtain ⟨g32, cap33, cur34, hv36, rfl, hB35⟩ := hO5.open (by omega)
  obtain ⟨rfl, rfl⟩ : A6 = some ⟨g32, 0, none⟩ ∧ c7 = cap33 := by injection hv36 with h1 h2 h3; exact ⟨h1, h3⟩
  have := hB35.le
  refine cxRegX mixedOrders (by kernel_rfl) ?_
  replace hH := hH.drew
  refine rv 0 .mv 0 ?_
  refine rv 1 .mv 0 ?_
  refine rv 2 .mv 0 ?_
  refine rv 3 (v := (.slice (some ⟨g32, 0, none⟩) k k)) (fun _ _ hF => opCutHM (h := k) (m := k) (e := 5) (sz := 1) rfl (by kernel_rfl) (by kernel_rfl) (hF.ev 2 rfl) (hF.ev 1 rfl) (hF.ev 0 rfl) rfl rfl (Nat.le_refl _) (by omega)) 7 ?_
  refine rv 4 .mv 0 ?_
  refine rv 5 .mv 4 ?_
  refine rv 6 (.add ((((k + 80)) : Nat) : Int)) 1 ?_
  refine rv 7 (v := (.slice (cutA (some ⟨g32, 0, none⟩) c7 (k + 80) 1) (B.length - (k + 80)) (c7 - (k + 80)))) (fun _ _ hF => opCutL (k := (k + 80)) (e := 5) (sz := 1) rfl (by kernel_rfl) (by kernel_rfl) (hF.ev 1 rfl) (hF.ev 0 rfl) rfl (by omega)) 3 ?_
  refine rx1k 8 ?_
  refine rm 8 hH (fun _ hF => smAppNil (e := 5) rfl (by kernel_rfl) (by kernel_rfl) (hF.ev 1 rfl) (hF.ev 0 rfl) (by omega) (Nat.le_refl _)) trivial 3 (.nil _ []) ?_
  clear hH
  rintro _ _ w ⟨rfl, rfl⟩ hH
  refine ⟨pnil, ?_⟩
  refine rv 9 .mv 3 ?_
  refine rxEnd (by kernel_rfl) ?_
  refine qxInN ?_
  refine qxThen ?_
  refine zr ?_
  refine zs (hH.q 0 rfl) (.ld (cArr 32) s (fun _ hS => (holds_blk0 hS))) 2 ?_
  refine zv .mv 2 ?_
  refine zc Tryz.func4 (opens16_c s (some ⟨g32, 0, none⟩) k k (B.take k)) (⟨(hH.oldBlk hR.1 (by simp)), (hH.oldBlk hR.2.1 (by simp)), (hH.oldBlk hR.2.2.1 (by simp)), (hH.oldBlk hR.2.2.2.1 (by simp)), ((hB35.vu (n := B.length) (hH.blk 2 rfl) rfl).head (m := k) (by omega)).recap (Nat.le_refl _)⟩) hH 3 ?_
  clear hH
  intro w hH
  refine zv .mv 1 ?_
  refine zn ?_
  refine cxRet ?_
  refine qxRet1 0 rfl rfl ?_
  exact ⟨rfl, HH.toBelow hH⟩
  obtain ⟨g37, cap38, cur39, hv41, rfl, hB40⟩ := hO5.open (by omega)
  obtain ⟨rfl, rfl⟩ : A6 = some ⟨g37, 0, none⟩ ∧ c7 = cap38 := by injection hv41 with h1 h2 h3; exact ⟨h1, h3⟩
  have := hB40.le
  refine cxRegX mixedOrders (by kernel_rfl) ?_
  replace hH := hH.drew
  refine rv 0 .mv 0 ?_
  refine rv 1 .mv 0 ?_
  refine rv 2 .mv 0 ?_
  refine rv 3 (v := (.slice (some ⟨g37, 0, none⟩) k k)) (fun _ _ hF => opCutHM (h := k) (m := k) (e := 5) (sz := 1) rfl (by kernel_rfl) (by kernel_rfl) (hF.ev 2 rfl) (hF.ev 1 rfl) (hF.ev 0 rfl) rfl rfl (Nat.le_refl _) (by omega)) 7 ?_
  refine rv 4 .mv 0 ?_
  refine rv 5 .mv 4 ?_
  refine rv 6 (.add ((((k + 80)) : Nat) : Int)) 1 ?_
  refine rv 7 (v := (.slice (some ⟨g37, 0 + (k + 80) * 1, none⟩) (B.length - (k + 80)) (c7 - (k + 80)))) (fun _ _ hF => opSlcL (k := (k + 80)) (e := 5) (sz := 1) rfl (by kernel_rfl) (by kernel_rfl) (hF.ev 1 rfl) (hF.ev 0 rfl) rfl (by omega) (by omega)) 3 ?_
  refine rx1k 8 ?_
  refine rm 8 hH (fun _ hF => smAppNew (C := cByte) (l := (B.take k)) (m := (B.drop (k + 80))) (e := 5) (z := (.int .u8 0)) (by_ := 1) rfl (by kernel_rfl) (by kernel_rfl) rfl (ltb rfl) (hF.ev 1 rfl) (hF.ev 0 rfl) (by rw [List.length_take]; omega) (by rw [List.length_drop]) (fun h => by cases h) (by omega) (by omega) (by unfold maxLen; omega) (by omega)) (⟨((hB40.vu (n := B.length) (hH.blk 2 rfl) rfl).head (m := k) (by omega)).recap (Nat.le_refl _), (cutA_some (sz := 1) (b := g37) (off := 0) (c := c7) (k := (k + 80)) (by omega) ▸ ((hB40.vu (n := B.length) (hH.blk 2 rfl) rfl).from (k := (k + 80)) (by omega)))⟩) 3 (.nil _ []) ?_
  clear hH
  rintro v44 E45 w hO46 hH
  replace hO46 : OwnT cByte 5 v44 ((B.take k) ++ (B.drop (k + 80))) E45 := hO46
  obtain ⟨A42, c43, rfl⟩ := hO46.slice
  refine ⟨pnil, ?_⟩
  refine rv 9 .mv 3 ?_
  refine rxEnd (by kernel_rfl) ?_
  refine qxInN ?_
  refine qxThen ?_
  refine zr ?_
  refine zs (hH.q 0 rfl) (.ld (cArr 32) s (fun _ hS => (holds_blk0 hS))) 2 ?_
  refine zv .mv 2 ?_
  refine zc Tryz.func4 (opens16_c s A42 (((B.take k) ++ (B.drop (k + 80))).length) c43 ((B.take k) ++ (B.drop (k + 80)))) (⟨(hH.oldBlk hR.1 (by simp)), (hH.oldBlk hR.2.1 (by simp)), (hH.oldBlk hR.2.2.1 (by simp)), (hH.oldBlk hR.2.2.2.1 (by simp)), (hO46.vuAt (hH.has 3 rfl))⟩) hH 3 ?_
  clear hH
  intro w hH
  refine zv .mv 1 ?_
  refine zn ?_
  refine cxRet ?_
  refine qxRet1 0 rfl rfl ?_
  exact ⟨rfl, HH.toBelow hH⟩
  refine cxSkip ?_
  refine qxInN ?_
  refine qxThen ?_
  refine zr ?_
  refine zs (hH.q 0 rfl) (.ld (cArr 32) s (fun _ hS => (holds_blk0 hS))) 27 ?_
  refine zv .mv 2 ?_
  refine zc Tryz.func4 (opens16_c s A6 B.length c7 B) (⟨(hH.oldBlk hR.1 (by simp)), (hH.oldBlk hR.2.1 (by simp)), (hH.oldBlk hR.2.2.1 (by simp)), (hH.oldBlk hR.2.2.2.1 (by simp)), (hO5.vuAt (hH.has 2 rfl))⟩) hH 3 ?_
  clear hH
  intro w hH
  refine zv .mv 1 ?_
  refine zn ?_
  refine cxRet ?_
  refine qxRet1 0 rfl rfl ?_
  exact ⟨rfl, HH.toBelow hH⟩
  refine zr ?_
  refine zv .mv 1 ?_
  refine zv (.gt (ch > 0)) 1 ?_
  refine zn ?_
  refine zP (fun hc48 => ?_) (fun hc48 => ?_)
  obtain ⟨k, hk⟩ : ∃ q, q = 36 + 80 * (x1.toNat % ch) := ⟨_, rfl⟩
  have hmk : x1.toNat % ch < ch := Nat.mod_lt _ (by omega)
  have hqk : k + 80 ≤ B.length := by omega
  obtain ⟨l, hl2⟩ : ∃ q, q = 36 + 80 * (x2.toNat % ch) := ⟨_, rfl⟩
  have hml : x2.toNat % ch < ch := Nat.mod_lt _ (by omega)
  have hql : l + 80 ≤ B.length := by omega
  refine zx ?_
  replace hH := hH.drew
  refine rv 0 .mv 17 ?_
  refine rv 1 .ci 1 ?_
  refine rv 2 .mv 0 ?_
  refine rv 3 (v := (.int .i64 (((x1.toNat % ch) : Nat) : Int))) (fun _ _ hF => opRem (z := ((x1.toNat % ch : Nat) : Int)) rfl (hF.ev 1 rfl) (hF.ev 0 rfl) (by omega) remN) 3 ?_
  refine rv 4 (.mul ((80 * (x1.toNat % ch) : Nat) : Int)) 1 ?_
  refine rv 5 (.add (((k) : Nat) : Int) (hz := by rw [hk]; exact wI (by omega) (by omega) (by omega))) 1 ?_
  refine rv 6 .mv 16 ?_
  refine rv 7 .ci 1 ?_
  refine rv 8 .mv 4 ?_
  refine rv 9 (v := (.int .i64 (((x2.toNat % ch) : Nat) : Int))) (fun _ _ hF => opRem (z := ((x2.toNat % ch : Nat) : Int)) rfl (hF.ev 1 rfl) (hF.ev 0 rfl) (by omega) remN) 3 ?_
  refine rv 10 (.mul ((80 * (x2.toNat % ch) : Nat) : Int)) 1 ?_
  refine rv 11 (.add (((l) : Nat) : Int) (hz := by rw [hl2]; exact wI (by omega) (by omega) (by omega))) 1 ?_
  refine rv 12 .mv 2 ?_
  refine rv 13 .mv 2 ?_
  refine rn ?_
  refine zr ?_
  refine zm hH (fun _ hF => smLit0 (e := 5) rfl (by kernel_rfl) (by kernel_rfl)) trivial 0 ?_
  clear hH
  rintro _ _ w ⟨g49, rfl, rfl⟩ hH
  refine zv .mv 0 ?_
  refine ze 3 hH rfl (fun _ hF => smAppT (C := cByte) (l := []) (m := B) (e := 5) (z := (.int .u8 0)) (by_ := 1) rfl (by kernel_rfl) (by kernel_rfl) rfl (ltb rfl) (hF.ev 1 rfl) ((Bk.lit0 (C := cByte)).own 5 g49 rfl) (hF.ev 0 rfl) rfl hO5.nilA (by rw [List.length_nil]; unfold maxLen; omega) (by rw [List.length_nil]; omega)) (hO5.vuAt (hH.has 2 rfl)) 3 ?_
  clear hH
  rintro v52 E53 w ⟨hO54, _⟩ hH
  replace hO54 : OwnT cByte 5 v52 B E53 := hO54
  obtain ⟨A50, c51, rfl⟩ := hO54.slice
  refine zv .mv 1 ?_
  refine zn ?_
  obtain ⟨g55, cap56, cur57, hv59, rfl, hB58⟩ := hO54.open (by omega)
  obtain ⟨rfl, rfl⟩ : A50 = some ⟨g55, 0, none⟩ ∧ c51 = cap56 := by injection hv59 with h1 h2 h3; exact ⟨h1, h3⟩
  have := hB58.le
  have hz9 : (cur57).size = c51 * 1 := hB58.size
  have hz8 := hB58.le
  have hcl : ((B.take (l + 80)).drop l).length = l + 80 - l := by rw [List.length_drop, List.length_take, Nat.min_eq_left (by omega)]
  obtain ⟨g60, cap61, cur62, hv64, rfl, hB63⟩ := hO5.open (by omega)
  obtain ⟨rfl, rfl⟩ : A6 = some ⟨g60, 0, none⟩ ∧ c7 = cap61 := by injection hv64 with h1 h2 h3; exact ⟨h1, h3⟩
  have := hB63.le
  refine zx ?_
  replace hH := hH.drew
  refine rv 0 .mv 0 ?_
  refine rv 1 .mv 8 ?_
  refine rv 2 (v := (.slice (some ⟨g55, 0 + k * 1, none⟩) (B.length - k) (c51 - k))) (fun _ _ hF => opSlcL (k := k) (e := 5) (sz := 1) rfl (by kernel_rfl) (by kernel_rfl) (hF.ev 1 rfl) (hF.ev 0 rfl) rfl (by omega) (by omega)) 3 ?_
  refine rv 3 .mv 8 ?_
  refine rv 4 .mv 0 ?_
  refine rv 5 .mv 16 ?_
  refine rv 6 (.add ((((l + 80)) : Nat) : Int)) 1 ?_
  refine rv 7 (v := (.slice (some ⟨g60, 0 + l * 1, none⟩) ((l + 80) - l) (c7 - l))) (fun _ _ hF => opSlcLH (k := l) (h := (l + 80)) (e := 5) (sz := 1) rfl (by kernel_rfl) (by kernel_rfl) (hF.ev 2 rfl) (hF.ev 1 rfl) (hF.ev 0 rfl) rfl rfl (by omega) (by omega) (by omega)) 7 ?_
  obtain ⟨cur66, hcs67, hB65⟩ : ∃ cs, putL cur57 (0 + k * 1) (flat cByte ((B.take (l + 80)).drop l)) = cs ∧ Bk cByte c51 cs (B.take k ++ (((B.take (l + 80)).drop l) ++ B.drop (k + ((B.take (l + 80)).drop l).length))) := ⟨_, rfl, hB58.copy k ((B.take (l + 80)).drop l) (by omega)⟩
  refine rx1k 8 ?_
  refine re 8 3 hH rfl (fun _ hF => smCopyT (C := cByte) (m := ((B.take (l + 80)).drop l)) (e := 5) rfl (by kernel_rfl) (by kernel_rfl) (ltb rfl) (hF.ev 1 rfl) (hF.ev 0 rfl) (by omega) hcl (by show 0 + k * 1 + (l + 80 - l) * 1 ≤ _; omega) hcs67) (cutA_some (sz := 1) (b := g60) (off := 0) (c := c7) (k := l) (by omega) ▸ ((hB63.vu (n := B.length) (hH.blk 2 rfl) rfl).cut (k := l) (m := (l + 80)) (by omega) (by omega))) 3 (.nil _ []) ?_
  clear hH
  rintro _ _ w ⟨rfl, rfl⟩ hH
  refine ⟨pnil, ?_⟩
  refine rn ?_
  refine cxReg ?_
  refine zv .mv 3 ?_
  refine zv .mv 1 ?_
  refine pxEnd ?_
  refine qxInN ?_
  refine qxThen ?_
  have hcl9 : (B.take k ++ (((B.take (l + 80)).drop l) ++ B.drop (k + ((B.take (l + 80)).drop l).length))).length = B.length := by rw [List.length_append, List.length_append, hcl, List.length_take, List.length_drop]; omega
  refine zr ?_
  refine zs (hH.q 0 rfl) (.ld (cArr 32) s (fun _ hS => (holds_blk0 hS))) 2 ?_
  refine zv .mv 2 ?_
  refine zc Tryz.func4 (opens16_c s (some ⟨g55, 0, none⟩) B.length c51 (B.take k ++ (((B.take (l + 80)).drop l) ++ B.drop (k + ((B.take (l + 80)).drop l).length)))) (⟨(hH.oldBlk hR.1 (by simp)), (hH.oldBlk hR.2.1 (by simp)), (hH.oldBlk hR.2.2.1 (by simp)), (hH.oldBlk hR.2.2.2.1 (by simp)), (hB65.vu (n := B.length) (hH.blk 3 rfl) hcl9)⟩) hH 3 ?_
  clear hH
  intro w hH
  refine zv .mv 1 ?_
  refine zn ?_
  refine cxRet ?_
  refine qxRet1 0 rfl rfl ?_
  exact ⟨rfl, HH.toBelow hH⟩
  refine cxSkip ?_
  refine qxInN ?_
  refine qxThen ?_
  refine zr ?_
  refine zs (hH.q 0 rfl) (.ld (cArr 32) s (fun _ hS => (holds_blk0 hS))) 59 ?_
  refine zv .mv 2 ?_
  refine zc Tryz.func4 (opens16_c s A6 B.length c7 B) (⟨(hH.oldBlk hR.1 (by simp)), (hH.oldBlk hR.2.1 (by simp)), (hH.oldBlk hR.2.2.1 (by simp)), (hH.oldBlk hR.2.2.2.1 (by simp)), (hO5.vuAt (hH.has 2 rfl))⟩) hH 3 ?_
  clear hH
  intro w hH
  refine zv .mv 1 ?_
  refine zn ?_
  refine cxRet ?_
  refine qxRet1 0 rfl rfl ?_
  exact ⟨rfl, HH.toBelow hH⟩
end Go.Proofs.YtfloiekaiiapnaaGreatDoor

namespace Go.Proofs.YtfloiekaiiapnaaGreatDoor
open Go Go.RowKit Go.WideShapes Go.Deep

/-- Whatever is read as type t is a datum of C, of which Ok holds. -/
def Opens {α : Type} (P : Program) (t : TypeId) (C : Cod α) (Ok : World → α → Prop) : Prop :=
  ∀ {H : Type} (enc : TypeId × Value → H) (w : World) (fuel : Nat) (cs : List Value) (x : DataW H × List MemPlace), DataW.trod enc P w 0 (fun _ => true) true fuel t cs = some x → (x.1.weights P t).all (· ≤ reachBytes) = true → ∃ a, cs = (C.enc a).toList ∧ Ok w a

section
variable {P : Program} {t e : TypeId} {α β : Type} {A C : Cod α} {B : Cod β} {Ok OkA : World → α → Prop} {OkB : World → β → Prop}
theorem opens_byte (hu : P.underlying t = some (.int .u8)) : Opens P t cByte (fun _ _ => True) := fun enc w fuel cs x h _ => by
  obtain ⟨n, rfl, _, hw⟩ := DataW.trod_int hu h
  have h8 : 0 ≤ n ∧ n ≤ 255 := by
    simp [Lit.wf, IntKind.min, IntKind.max, IntKind.signed, IntKind.bits] at hw
    omega
  refine ⟨UInt8.ofNat n.toNat, ?_, trivial⟩
  have e : ((UInt8.ofNat n.toNat).toNat : Int) = n := by rw [UInt8.toNat_ofNat']; omega
  show _ = [Value.int .u8 ((UInt8.ofNat n.toNat).toNat : Int)]
  rw [e]
theorem opens_u64 (hu : P.underlying t = some (.int .u64)) : Opens P t (cNat .u64) (fun _ n => n < 18446744073709551616) := fun enc w fuel cs x h _ => by
  obtain ⟨n, rfl, _, hw⟩ := DataW.trod_int hu h
  have h8 : 0 ≤ n ∧ n ≤ 18446744073709551615 := by
    simp [Lit.wf, IntKind.min, IntKind.max, IntKind.signed, IntKind.bits] at hw
    omega
  refine ⟨n.toNat, ?_, by omega⟩
  have e : ((n.toNat : Nat) : Int) = n := by omega
  show _ = [Value.int .u64 ((n.toNat : Nat) : Int)]
  rw [e]
theorem weightsAll_mem {H : Type} {P : Program} {e : TypeId} : ∀ {ds : List (DataW H)} {d : DataW H}, d ∈ ds → ∀ n ∈ d.weights P e, n ∈ DataW.weightsAll P e ds
  | d0 :: r, d, hd, n, hn => by
    simp only [DataW.weightsAll, List.mem_append]
    rcases List.mem_cons.1 hd with rfl | hd
    · exact .inl hn
    · exact .inr (weightsAll_mem hd n hn)
/-- What lies behind a slice's head. -/
def SlOk {α : Type} (P : Program) (e : TypeId) (C : Cod α) (Ok : World → α → Prop) (w : World) (s : Option Addr × Nat × Nat) : Prop :=
  ∃ l : List α, s.2.1 = l.length ∧ Vu C w s.1 l.length s.2.2 l ∧ (∀ a ∈ l, Ok w a) ∧ s.2.2 * P.bytesOf e ≤ reachBytes
theorem opens_slice (hu : P.underlying t = some (.slice e)) (hc : P.cellsOf e = C.sz) (hp : 0 < C.sz) (he : Opens P e C Ok) : Opens P t cSl (SlOk P e C Ok) := fun enc w fuel cs x h hz => by
  rcases open_slice hu h with ⟨rfl, rfl⟩ | ⟨a, len, cap, m, n, D, Pl, rfl, _, hl, hm, hmm, rfl, hx⟩
  · exact ⟨(none, 0, 0), rfl, [], rfl, Vu.none C w, (fun _ h => by cases h), by simp⟩
  · simp only [if_true] at hmm
    subst hmm
    simp only [DataW.weights, hu, List.all_cons, Bool.and_eq_true, decide_eq_true_eq, List.length_map, List.length_range] at hz
    have hw : ∀ i, i < m → ((D i).weights P e).all (· ≤ reachBytes) = true := fun i hi => by
      rw [List.all_eq_true]
      intro k hk
      have h2 := hz.2
      rw [List.all_append, Bool.and_eq_true] at h2
      by_cases hil : i < len
      · exact List.all_eq_true.1 h2.1 k (weightsAll_mem (List.mem_map.2 ⟨i, by simpa using hil, rfl⟩) k hk)
      · exact List.all_eq_true.1 h2.2 k (weightsAll_mem (List.mem_map.2 ⟨i - len, by simp; omega, by congr 1; omega⟩) k hk)
    have each : ∀ i, i < len → ∃ b : α, (∀ j, j < C.sz → w.cell? (a.add (i * C.sz + j)) = (C.enc b)[j]?) ∧ Ok w b := fun i hi => by
      obtain ⟨cs', h1, h2⟩ := hx i (by omega)
      obtain ⟨b, rfl, hok⟩ := he enc w n cs' _ h2 (hw i (by omega))
      rw [hc] at h1
      obtain ⟨_, _, hcell⟩ := World.cells?_some h1
      refine ⟨b, fun j hj => ?_, hok⟩
      rw [← add_add, hcell j hj, Array.getElem?_toList]
    obtain ⟨f, hf⟩ : ∃ f : (i : Nat) → i < len → α, ∀ i h, (∀ j, j < C.sz → w.cell? (a.add (i * C.sz + j)) = (C.enc (f i h))[j]?) ∧ Ok w (f i h) := ⟨fun i h => (each i h).choose, fun i h => (each i h).choose_spec⟩
    let l : List α := List.ofFn fun i : Fin len => f i i.isLt
    have hll : l.length = len := by simp [l]
    have hlg : ∀ i (h : i < len), l[i]? = some (f i h) := fun i h => by simp [l, h]
    refine ⟨(some a, len, m), rfl, l, hll.symm, ⟨rfl, by rw [hll]; exact hl, (fun h => by cases h), fun hn => ?_⟩, fun b hb => ?_, ?_⟩
    · obtain ⟨ab, ao, spot⟩ := a
      rw [hll] at hn
      have hcell0 := (hf 0 hn).1 0 hp
      have hspot : spot = none := by
        rw [Array.getElem?_eq_getElem (by rw [C.size]; exact hp)] at hcell0
        have := World.cell?_spot hcell0
        simpa [Addr.add] using this
      subst hspot
      refine ⟨ab, ao, rfl, fun i y hy j u hu' => ?_⟩
      have hi : i < len := by rw [← hll]; exact (List.getElem?_eq_some_iff.1 hy).1
      rw [hlg i hi] at hy
      obtain rfl := Option.some.inj hy
      have hj : j < C.sz := by
        have := (Array.getElem?_eq_some_iff.1 hu').1
        rwa [C.size] at this
      have := (hf i hi).1 j hj
      rw [Addr.add_mid, hu'] at this
      rw [Nat.add_assoc]; exact this
    · obtain ⟨i, hi⟩ := List.getElem?_of_mem hb
      have hil : i < len := by rw [← hll]; exact (List.getElem?_eq_some_iff.1 hi).1
      rw [hlg i hil] at hi
      obtain rfl := Option.some.inj hi
      exact (hf i hil).2
    · have h1 := hz.1
      rw [show len + (m - len) = m by omega] at h1
      exact h1
theorem opens_arr {n : Nat} (hu : P.underlying t = some (.array n e)) (hc : P.cellsOf t = n) (he : P.underlying e = some (.int .u8)) (h1 : P.cellsOf e = 1) : Opens P t (cArr n) (fun _ _ => True) := fun enc w fuel cs x h _ => by
  obtain ⟨xs, m, _, _, hl, hx, hel⟩ := DataW.trod_array hu h
  have each : ∀ i, i < n → ∃ b : UInt8, cs[i]? = some (.int .u8 (b.toNat : Int)) := fun i hi => by
    have h2 := hel i hi
    rw [h1, List.getElem?_eq_getElem (by omega)] at h2
    obtain ⟨k, hn, _, hw⟩ := DataW.trod_int he h2
    have hr : 0 ≤ k ∧ k ≤ 255 := by
      simp [Lit.wf, IntKind.min, IntKind.max, IntKind.signed, IntKind.bits] at hw
      omega
    refine ⟨UInt8.ofNat k.toNat, ?_⟩
    have h3 := congrArg (fun l => l[0]?) hn
    simp at h3
    rw [h3]
    congr 2
    rw [UInt8.toNat_ofNat']
    omega
  obtain ⟨f, hf⟩ : ∃ f : Nat → UInt8, ∀ i, i < n → cs[i]? = some (.int .u8 ((f i).toNat : Int)) :=
    ⟨fun i => if h : i < n then (each i h).choose else 0, fun i hi => by simpa [hi] using (each i hi).choose_spec⟩
  refine ⟨f, ?_, trivial⟩
  apply List.ext_getElem?
  intro i
  rw [enc_arr, Array.getElem?_toList (xs := row n f)]
  by_cases hi : i < n
  · rw [row_get n f i hi, hf i hi]
    rfl
  · rw [List.getElem?_eq_none (by rw [hl, hc]; omega), Array.getElem?_eq_none (by rw [row_size]; omega)]
/-- An argument is its datum's value. -/
theorem okWide_noAgg {w : World} {base : Nat} {cs : Array Value} (hd : (P.underlying t).map (·.isRow) = some false) (h : Value.okWide P w .any base t (.agg cs)) : False := by
  cases hu : P.underlying t with
  | none => rw [hu] at hd; cases hd
  | some d =>
    rw [hu] at hd
    have hd := Option.some.inj hd
    cases d <;> first | (cases hd; done) | (simp [Value.okWide, hu, Cell.okWide, Cell.ok] at h)
theorem open_arg {H : Type} {enc : TypeId × Value → H} {W : World} {base : Nat} {v : Value} {d : DataW H} {p : List MemPlace} (ho : Opens P t C Ok) (hty : tyOk P t C = true) (hval : Value.okWide P W .any base t v) (h : DataW.Trod enc P W 0 (fun _ => true) true t v d p)
    (hz : (d.weights P t).all (· ≤ reachBytes) = true) : ∃ a, v = C.val a ∧ Ok W a := by
  obtain ⟨fuel, hf⟩ := h
  obtain ⟨a, ha, hok⟩ := ho enc W fuel _ _ hf hz
  refine ⟨a, ?_, hok⟩
  have ha' : v.cells = C.enc a := Array.ext' ha
  obtain ⟨hd, _⟩ := tyOk.spec hty
  cases hr : C.row with
  | true =>
    rw [hr] at hd
    have : ∃ cs, v = .agg cs := by
      cases hu : P.underlying t with
      | none => rw [hu] at hd; cases hd
      | some dd =>
        rw [hu] at hd
        have hd := Option.some.inj hd
        simp only [Value.okWide, hu] at hval
        cases dd <;> first | (cases hd; done) | (obtain ⟨cs, rfl, _⟩ := hval; exact ⟨cs, rfl⟩)
    obtain ⟨cs, rfl⟩ := this
    rw [C.agg hr a]
    exact congrArg Value.agg ha'
  | false =>
    rw [hr] at hd
    have h1 := one_cells (C.scal hr a)
    have h2 : v.cells = #[C.val a] := ha'.trans h1
    cases v with
    | agg cs => exact (okWide_noAgg hd hval).elim
    | _ => simpa [Value.cells] using h2
end
end Go.Proofs.YtfloiekaiiapnaaGreatDoor
