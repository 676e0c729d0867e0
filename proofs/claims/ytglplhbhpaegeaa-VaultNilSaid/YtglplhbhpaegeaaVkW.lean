/- The program's vault: settle, write, Keep, Open (mkvw.py writes this text). -/
import Derived.Test.YtglplhbhpaegeaaVkF
namespace Go.Proofs.Ytglplhbhpaegeaa
open Go Go.RowKit
set_option maxRecDepth 100000

/-- A vault in memory. -/
structure VtAt (g : Nat) (V : Vt) (E : Hl) : Prop where
  ok : V.Ok
  at' : ∃ A0 n0 c0 E0, E = ([[bl g 61 #[.pointer (some ⟨V.gd, 0, none⟩), .int .i64 (V.half : Int), .int .i64 (V.sector : Int), .int .u64 (V.number : Int), .int .u64 (V.size : Int), .int .i64 (V.area : Int), .slice A0 n0 c0, .bool V.over]], E0] : List Hl).flatten ∧ OwnT cByte 5 (.slice A0 n0 c0) V.kept E0
theorem OwnT.take {α : Type} {C : Cod α} {e : TypeId} {A : Option Addr} {n c k : Nat} {l : List α} {E : Hl} (h : OwnT C e (.slice A n c) l E) (hk : k ≤ n) : OwnT C e (.slice A k c) (l.take k) E := by
  have hn := h.len
  rcases h.cases with ⟨h1, rfl, rfl⟩ | ⟨g, cap, cur, h1, rfl, hB⟩
  · injection h1 with h1 h2 h3
    subst h1 h2 h3
    obtain rfl : k = 0 := by omega
    exact OwnT.nil C e
  · injection h1 with h1 h2 h3
    subst h1 h3
    refine Bk.own ⟨by rw [List.length_take]; have := hB.le; omega, hB.max, hB.size, ?_⟩ e g (by rw [List.length_take]; omega)
    have e1 : (l.take k).length = k := by rw [List.length_take]; omega
    have e2 := hB.take
    have e3 : flat C (l.take k) = (flat C l).take (k * C.sz) := by
      have := flat_append (C := C) (l.take k) (l.drop k)
      rw [List.take_append_drop] at this
      rw [this]
      have h1 : (flat C (l.take k)).length = k * C.sz := by rw [flat_len, e1]
      rw [← h1, List.take_left']
      rfl
    rw [e1, e3, ← e2, List.take_take, Nat.min_eq_left (Nat.mul_le_mul_right _ (by omega))]

set_option maxHeartbeats 8000000 in
theorem settle_v (g : Nat) (V : Vt) (A : Option Addr) (c : Nat) (D : Dk) (E : Hl) (hD : DkAt V.gd D E) (hg : g ∉ bks E) (at_ n : Nat) (b : List UInt8) (Ab : Option Addr) (cb : Nat) (hn : b.length = n) (hA : Off Ab b.length (bks E)) (hat : at_ ≤ 4000) (hb : b.length ≤ 6400000) (hU : D.uns.length ≤ 800000) : Does Try.prog 38 #[(.pointer (some ⟨g, 0, none⟩)), (.int .i64 (at_ : Int)), (.slice Ab n cb)] E (fun w => VtBlk g V A c w ∧ Vu cByte w Ab n cb b) (fun v E' => v = .int .i64 ((D.lay at_ b).1 : Int) ∧ DkAt V.gd (D.lay at_ b).2 E') := by
  refine does_of (fn := Try.f38) Try.func38 rfl Try.ntmps38 (Nat.le_of_ble_eq_true rfl) rfl ?_
  intro w0 hH hR
  subst hn
  refine cxSeq ?_
  refine cxReg ?_
  refine pxV (v := (.int .i64 0)) (fun _ _ hF => opAssign rfl rfl) rfl (fun _ _ => rfl) (kA rfl) (by decide) ?_
  refine pxEnd ?_
  refine qxThen ?_
  refine cxSeq ?_
  refine cxSeq ?_
  refine cxReg ?_
  refine pxV (v := (.pointer (some ⟨g, 0, none⟩))) (fun _ _ hF => opMove rfl (hF.ev 1 rfl)) rfl (fun _ _ => rfl) (kM [false, true, true, true] rfl rfl) (by decide) ?_
  refine pxV (v := (.pointer (some ⟨g, 0, none⟩))) (fun _ _ hF => opNilCheck rfl (hF.ev 0 rfl)) rfl (fun _ _ => rfl) (kM [false, true, true, true] rfl rfl) (by decide) ?_
  refine pxV (v := (.pointer (some ⟨g, 0, none⟩))) (fun _ _ hF => opField (off := 0) rfl (hF.ev 0 rfl) (by kernel_rfl)) rfl (fun _ _ => rfl) (kM [false, true, true, true] rfl rfl) (by decide) ?_
  refine pxS (v := (.pointer (some ⟨V.gd, 0, none⟩))) (fun w => w.heap[g]? = some (.cells #[(.pointer (some ⟨V.gd, 0, none⟩)), (.int .i64 (((V.half) : Nat) : Int)), (.int .i64 (((V.sector) : Nat) : Int)), (.int .u64 (((V.number) : Nat) : Int)), (.int .u64 (((V.size) : Nat) : Int)), (.int .i64 (((V.area) : Nat) : Int)), (.slice A V.kept.length c), (.bool (V.over))] 61 (0, 0))) (hH.oldBlk hR.1 hg) (fun _ _ hF hS => opLoadK hS rfl (hF.ev 0 rfl) (by kernel_rfl) rfl) rfl (fun _ _ => rfl) (kM [false, true, true, true] rfl rfl) (by decide) ?_
  refine pxV (v := (.int .i64 (((at_) : Nat) : Int))) (fun _ _ hF => opMove rfl (hF.ev 2 rfl)) rfl (fun _ _ => rfl) (kM [true, true, false, true] rfl rfl) (by decide) ?_
  refine pxV (v := (.slice Ab b.length cb)) (fun _ _ hF => opMove rfl (hF.ev 3 rfl)) rfl (fun _ _ => rfl) (kM [true, true, true, false] rfl rfl) (by decide) ?_
  refine pxE 0 hH rfl (fun _ hF => Does.small (write_c V.gd D E hD (((at_) : Nat) : Int) b (by omega) (by omega) Ab cb (hH.off 0 rfl hR.2 (by decide) hA) (by omega) (by omega) hD.ok.sz) (fun w => opCall rfl Try.func22 rfl rfl (Evs.cons (v := (.pointer (some ⟨V.gd, 0, none⟩))) (hF.ev 2 rfl) (Evs.cons (v := (.int .i64 (((at_) : Nat) : Int))) (hF.ev 1 rfl) (Evs.cons (v := (.slice Ab b.length cb)) (hF.ev 0 rfl) Evs.nil))) w)) (hH.vu hR.2 (by decide) hA) rfl (fun _ _ => rfl) (kM [false, false, false, true] rfl rfl) (by decide) ?_
  clear hH
  rintro _ E1 w ⟨rfl, hD2⟩ hH
  replace hH : HH w0 (bks E) [E1] w := hH
  refine pxV (v := (.int .i64 ((((D.writes (((at_) : Nat) : Int) b).1) : Nat) : Int))) (fun _ _ hF => opAssign rfl (hF.ev 0 rfl)) rfl (fun _ _ => rfl) (kM [false, true] rfl rfl) (by decide) ?_
  refine pxEnd ?_
  refine qxThen ?_
  refine cxSeq ?_
  refine cxReg ?_
  refine pxV (v := (.int .i64 ((((D.writes (((at_) : Nat) : Int) b).1) : Nat) : Int))) (fun _ _ hF => opMove rfl (hF.ev 0 rfl)) rfl (fun _ _ => rfl) (kA rfl) (by decide) ?_
  refine pxV (v := (.bool (decide ((D.writes (((at_) : Nat) : Int) b).1 ≠ 0)))) (fun _ _ hF => opNeI rfl (hF.ev 0 rfl) rfl (dc (by omega))) rfl (fun _ _ => rfl) (kM [false, true, true] rfl rfl) (by decide) ?_
  refine pxEnd ?_
  refine qxThen ?_
  refine cxP 0 rfl rfl (fun hc3 => ?_) (fun hc3 => ?_)
  · refine cxSeq ?_
    refine cxReg ?_
    refine pxV (v := (.int .i64 ((((D.writes (((at_) : Nat) : Int) b).1) : Nat) : Int))) (fun _ _ hF => opMove rfl (hF.ev 1 rfl)) rfl (fun _ _ => rfl) (kM [false, false, false] rfl rfl) (by decide) ?_
    refine pxV (v := (.int .i64 ((((D.writes (((at_) : Nat) : Int) b).1) : Nat) : Int))) (fun _ _ hF => opAssign rfl (hF.ev 0 rfl)) rfl (fun _ _ => rfl) (kM [false] rfl rfl) (by decide) ?_
    refine pxEnd ?_
    refine qxThen ?_
    refine cxRet ?_
    refine qxThenR ?_
    refine qxRet1 0 rfl rfl ?_
    have he : D.lay at_ b = ((D.writes (((at_) : Nat) : Int) b).1, (D.writes (((at_) : Nat) : Int) b).2) := by unfold Dk.lay; rw [if_pos hc3]
    exact ⟨_, _, rfl, ⟨by rw [he], by rw [he]; exact hD2⟩, hH.out1 [true] rfl⟩
  · refine cxSkip ?_
    refine qxThen ?_
    refine cxSeq ?_
    refine cxReg ?_
    refine pxV (v := (.pointer (some ⟨g, 0, none⟩))) (fun _ _ hF => opMove rfl (hF.ev 2 rfl)) rfl (fun _ _ => rfl) (kM [false, false, false] rfl rfl) (by decide) ?_
    refine pxV (v := (.pointer (some ⟨g, 0, none⟩))) (fun _ _ hF => opNilCheck rfl (hF.ev 0 rfl)) rfl (fun _ _ => rfl) (kM [false] rfl rfl) (by decide) ?_
    refine pxV (v := (.pointer (some ⟨g, 0, none⟩))) (fun _ _ hF => opField (off := 0) rfl (hF.ev 0 rfl) (by kernel_rfl)) rfl (fun _ _ => rfl) (kM [false] rfl rfl) (by decide) ?_
    refine pxS (v := (.pointer (some ⟨V.gd, 0, none⟩))) (fun w => w.heap[g]? = some (.cells #[(.pointer (some ⟨V.gd, 0, none⟩)), (.int .i64 (((V.half) : Nat) : Int)), (.int .i64 (((V.sector) : Nat) : Int)), (.int .u64 (((V.number) : Nat) : Int)), (.int .u64 (((V.size) : Nat) : Int)), (.int .i64 (((V.area) : Nat) : Int)), (.slice A V.kept.length c), (.bool (V.over))] 61 (0, 0))) (hH.oldBlk hR.1 hg) (fun _ _ hF hS => opLoadK hS rfl (hF.ev 0 rfl) (by kernel_rfl) rfl) rfl (fun _ _ => rfl) (kM [false] rfl rfl) (by decide) ?_
    refine pxE 0 hH rfl (fun _ hF => Does.small (sync_c V.gd ((D.writes (((at_) : Nat) : Int) b).2) E1 hD2 (by have := (writes_uns D ((at_ : Nat) : Int) b).1; omega)) (fun w => opCall rfl Try.func42 rfl rfl (Evs.cons (v := (.pointer (some ⟨V.gd, 0, none⟩))) (hF.ev 0 rfl) Evs.nil) w)) trivial rfl (fun _ _ => rfl) (kM [false] rfl rfl) (by decide) ?_
    clear hH
    rintro _ E4 w ⟨rfl, hD5⟩ hH
    replace hH : HH w0 (bks E) [E4] w := hH
    refine pxV (v := (.int .i64 (((((D.writes (((at_) : Nat) : Int) b).2).sync.1) : Nat) : Int))) (fun _ _ hF => opAssign rfl (hF.ev 0 rfl)) rfl (fun _ _ => rfl) (kM [false] rfl rfl) (by decide) ?_
    refine pxEnd ?_
    refine qxThen ?_
    refine cxRet ?_
    refine qxRet1 0 rfl rfl ?_
    have he : D.lay at_ b = (((D.writes (((at_) : Nat) : Int) b).2).sync.1, ((D.writes (((at_) : Nat) : Int) b).2).sync.2) := by unfold Dk.lay; rw [if_neg hc3]
    exact ⟨_, _, rfl, ⟨by rw [he], by rw [he]; exact hD5⟩, hH.out1 [true] rfl⟩

theorem padB_eq (b : List UInt8) : (List.replicate (nsec b.length * 64) 0).take 0 ++ (b ++ (List.replicate (nsec b.length * 64) 0).drop (0 + b.length)) = padB b := by
  unfold padB
  rw [List.take_zero, List.nil_append, List.drop_replicate, Nat.zero_add]
theorem lay_uns {D : Dk} {at_ : Nat} {b : List UInt8} (h : (D.lay at_ b).1 = 0) : (D.lay at_ b).2.uns = [] := by
  unfold Dk.lay at *
  split
  · rename_i h1; rw [if_pos h1] at h; exact absurd h h1
  · rename_i h1
    rw [if_neg h1] at h
    generalize (D.writes (at_ : Int) b).2 = D1 at *
    unfold Dk.sync at *
    split
    · rename_i h2; rw [if_pos h2] at h; cases h
    · split
      · rfl
      · rename_i h2 h3; rw [if_neg h2, if_neg h3] at h; cases h

theorem mem_at {w0 w : World} {R : List Nat} {Hs : List Hl} {E : Hl} {g : Nat} (_ : HH w0 R Hs w) (i : Nat) (hi : Hs[i]? = some E) (hm : g ∈ bks E) : ∃ ob, (g, ob) ∈ Hs.flatten := by
  obtain ⟨y, hy, rfl⟩ := List.mem_map.1 hm
  exact ⟨y.2, List.mem_flatten.2 ⟨E, List.mem_of_getElem? hi, hy⟩⟩
theorem HH.notIn {w0 w : World} {R : List Nat} {Hs : List Hl} {E : Hl} {g : Nat} {ob : Obj} (hH : HH w0 R Hs w) (i : Nat) (hi : Hs[i]? = some E) (h0 : w0.heap[g]? = some ob) (hR : g ∉ R) : g ∉ bks E := fun hm => by
  obtain ⟨o2, h2⟩ := mem_at hH i hi hm
  rcases Hold.own hH _ h2 with h | h
  · have := (Array.getElem?_eq_some_iff.1 h0).1
    exact absurd this (Nat.not_lt.2 h)
  · exact hR h

set_option maxHeartbeats 8000000 in
theorem write_v (g : Nat) (V : Vt) (A : Option Addr) (c : Nat) (D : Dk) (E : Hl) (hD : DkAt V.gd D E) (hg : g ∉ bks E) (h : Hd) (b : List UInt8) (Ab : Option Addr) (cb : Nat) (hA : Off Ab b.length (bks E)) (hh : V.half ≤ 1999) (hh2 : h.Ok (V.half * 64)) (hb : b.length ≤ V.half * 64) (hU : D.uns.length ≤ 700000) : Does Try.prog 30 #[(.pointer (some ⟨g, 0, none⟩)), (.agg #[(.int .i64 (((h.sector) : Nat) : Int)), (.int .u64 (((h.number) : Nat) : Int)), (.int .u64 (((h.size) : Nat) : Int)), (.int .i64 (((h.area) : Nat) : Int))]), (.slice Ab b.length cb)] E (fun w => VtBlk g V A c w ∧ Vu cByte w Ab b.length cb b) (fun v E' => v = .int .i64 ((V.write D h b).1 : Int) ∧ DkAt V.gd (V.write D h b).2 E') := by
  refine does_of (fn := Try.f30) Try.func30 rfl Try.ntmps30 (Nat.le_of_ble_eq_true rfl) rfl ?_
  intro w0 hH hR
  have hnb : nsec b.length * 64 ≤ b.length + 63 := by unfold nsec; omega
  have hnb2 : b.length ≤ nsec b.length * 64 := by unfold nsec; omega
  have ha := hh2.area; have hsec := hh2.sector; have hsa := startA_le hh ha
  refine cxSeq ?_
  refine cxReg ?_
  refine pxM hH (fun _ hF => smBox rfl (hF.ev 1 rfl) rfl) trivial rfl (fun _ _ => rfl) (kM [true, false, true] rfl rfl) (by decide) ?_
  clear hH
  rintro _ _ w ⟨g1, rfl, rfl⟩ hH
  replace hH : HH w0 (bks E) [E, [bl g1 59 #[(.int .i64 (((h.sector) : Nat) : Int)), (.int .u64 (((h.number) : Nat) : Int)), (.int .u64 (((h.size) : Nat) : Int)), (.int .i64 (((h.area) : Nat) : Int))]]] w := hH
  refine pxV (v := (.int .i64 0)) (fun _ _ hF => opAssign rfl rfl) rfl (fun _ _ => rfl) (kA rfl) (by decide) ?_
  refine pxEnd ?_
  refine qxThen ?_
  refine cxSeq ?_
  refine cxReg ?_
  refine pxV (v := (.slice Ab b.length cb)) (fun _ _ hF => opMove rfl (hF.ev 3 rfl)) rfl (fun _ _ => rfl) (kM [false, true, true, true] rfl rfl) (by decide) ?_
  refine pxV (v := (.int .i64 (((b.length) : Nat) : Int))) (fun _ _ hF => opLen (e := 5) rfl (by kernel_rfl) (hF.ev 0 rfl)) rfl (fun _ _ => rfl) (kM [false, true, true, true] rfl rfl) (by decide) ?_
  refine pxM hH (fun _ hF => Does.small ((sectors_v b.length (by omega)).does) (fun w => opCall rfl Try.func27 rfl rfl (Evs.cons (v := (.int .i64 (((b.length) : Nat) : Int))) (hF.ev 0 rfl) Evs.nil) w)) trivial rfl (fun _ _ => rfl) (kM [false, true, true, true] rfl rfl) (by decide) ?_
  clear hH
  rintro _ _ w ⟨rfl, rfl⟩ hH
  replace hH : HH w0 (bks E) [E, [bl g1 59 #[(.int .i64 (((h.sector) : Nat) : Int)), (.int .u64 (((h.number) : Nat) : Int)), (.int .u64 (((h.size) : Nat) : Int)), (.int .i64 (((h.area) : Nat) : Int))]]] w := hH.unpad
  refine pxV (v := (.int .i64 ((((nsec b.length) * 64) : Nat) : Int))) (fun _ _ hF => opMul rfl (hF.ev 0 rfl) rfl (wI (by omega) (by omega) (by omega))) rfl (fun _ _ => rfl) (kM [false, true, true, true] rfl rfl) (by decide) ?_
  refine pxM hH (fun _ hF => smMake (e := 5) (n := (nsec b.length) * 64) (sz := 1) (by_ := 1) (z := (.int .u8 0)) (cs := madeCells (cByte.enc 0) (((nsec b.length) * 64) * 1)) rfl (by kernel_rfl) (by kernel_rfl) (hF.ev 0 rfl) (hF.ev 0 rfl) rfl rfl (by omega) (by omega) rfl) trivial rfl (fun _ _ => rfl) (kM [false, true, true, true] rfl rfl) (by decide) ?_
  clear hH
  rintro _ _ w ⟨g2, rfl, rfl⟩ hH
  replace hH : HH w0 (bks E) [E, [bl g1 59 #[(.int .i64 (((h.sector) : Nat) : Int)), (.int .u64 (((h.number) : Nat) : Int)), (.int .u64 (((h.size) : Nat) : Int)), (.int .i64 (((h.area) : Nat) : Int))]], [bl g2 5 (madeCells (cByte.enc 0) (((nsec b.length) * 64) * 1))]] w := hH
  refine pxV (v := (.slice (some ⟨g2, 0, none⟩) ((nsec b.length) * 64) ((nsec b.length) * 64))) (fun _ _ hF => opAssign rfl (hF.ev 0 rfl)) rfl (fun _ _ => rfl) (kM [false, true, true, true] rfl rfl) (by decide) ?_
  refine pxEnd ?_
  refine qxThen ?_
  refine cxSeq ?_
  refine cxReg ?_
  refine pxV (v := (.slice (some ⟨g2, 0, none⟩) ((nsec b.length) * 64) ((nsec b.length) * 64))) (fun _ _ hF => opMove rfl (hF.ev 0 rfl)) rfl (fun _ _ => rfl) (kA rfl) (by decide) ?_
  refine pxV (v := (.slice Ab b.length cb)) (fun _ _ hF => opMove rfl (hF.ev 4 rfl)) rfl (fun _ _ => rfl) (kM [true, true, true, true, false] rfl rfl) (by decide) ?_
  obtain ⟨cur4, hcs5, hB3⟩ : ∃ cs, putL (madeCells (cByte.enc 0) (((nsec b.length) * 64) * 1)) (0) (flat cByte b) = cs ∧ Bk cByte ((nsec b.length) * 64) cs ((List.replicate ((nsec b.length) * 64) 0).take 0 ++ (b ++ (List.replicate ((nsec b.length) * 64) 0).drop (0 + b.length))) := ⟨_, rfl, (Bk.make (C := cByte) 0 ((nsec b.length) * 64) (ltb rfl) (by unfold maxLen; omega)).copy 0 b (by rw [List.length_replicate]; omega)⟩
  refine pxE 2 hH rfl (fun _ hF => smCopyT (C := cByte) (m := b) (e := 5) rfl (by kernel_rfl) (by kernel_rfl) (ltb rfl) (hF.ev 1 rfl) (hF.ev 0 rfl) (by omega) rfl (by rw [size_madeCells]; show 0 + b.length * 1 ≤ nsec b.length * 64 * 1; omega) hcs5) (hH.vu hR.2 (by decide) hA) rfl (fun _ _ => rfl) (kM [false, false, true, true, true] rfl rfl) (by decide) ?_
  clear hH
  rintro _ _ w ⟨rfl, rfl⟩ hH
  replace hH : HH w0 (bks E) [E, [bl g1 59 #[(.int .i64 (((h.sector) : Nat) : Int)), (.int .u64 (((h.number) : Nat) : Int)), (.int .u64 (((h.size) : Nat) : Int)), (.int .i64 (((h.area) : Nat) : Int))]], [bl g2 5 cur4]] w := hH
  refine pxEnd ?_
  refine qxThen ?_
  refine cxSeq ?_
  refine cxSeq ?_
  have hB6 : Bk cByte ((nsec b.length) * 64) cur4 (padB b) := by rw [← padB_eq b]; exact hB3
  refine cxReg ?_
  refine pxV (v := (.pointer (some ⟨g, 0, none⟩))) (fun _ _ hF => opMove rfl (hF.ev 3 rfl)) rfl (fun _ _ => rfl) (kM [false, true, true, true] rfl rfl) (by decide) ?_
  refine pxV (v := (.pointer (some ⟨g, 0, none⟩))) (fun _ _ hF => opMove rfl (hF.ev 3 rfl)) rfl (fun _ _ => rfl) (kA rfl) (by decide) ?_
  refine pxV (v := (.pointer (some ⟨g1, 3, none⟩))) (fun _ _ hF => opField (off := 3) rfl (hF.ev 3 rfl) (by kernel_rfl)) rfl (fun _ _ => rfl) (kA rfl) (by decide) ?_
  refine pxS (v := (.int .i64 (((h.area) : Nat) : Int))) (fun w => w.heap[g1]? = some (.cells #[(.int .i64 (((h.sector) : Nat) : Int)), (.int .u64 (((h.number) : Nat) : Int)), (.int .u64 (((h.size) : Nat) : Int)), (.int .i64 (((h.area) : Nat) : Int))] 59 (0, 0))) (hH.blk 1 rfl) (fun _ _ hF hS => opLoadK hS rfl (hF.ev 0 rfl) (by kernel_rfl) rfl) rfl (fun _ _ => rfl) (kM [false, true, true, true, true, true] rfl rfl) (by decide) ?_
  refine pxM hH (fun _ hF => Does.small ((start_c g V A c h.area hh ha).does) (fun w => opCall rfl Try.func26 rfl rfl (Evs.cons (v := (.pointer (some ⟨g, 0, none⟩))) (hF.ev 1 rfl) (Evs.cons (v := (.int .i64 (((h.area) : Nat) : Int))) (hF.ev 0 rfl) Evs.nil)) w)) (hH.oldBlk hR.1 hg) rfl (fun _ _ => rfl) (kM [false, false, true, true, true, true] rfl rfl) (by decide) ?_
  clear hH
  rintro _ _ w ⟨rfl, rfl⟩ hH
  replace hH : HH w0 (bks E) [E, [bl g1 59 #[(.int .i64 (((h.sector) : Nat) : Int)), (.int .u64 (((h.number) : Nat) : Int)), (.int .u64 (((h.size) : Nat) : Int)), (.int .i64 (((h.area) : Nat) : Int))]], [bl g2 5 cur4]] w := hH.unpad
  refine pxV (v := (.slice (some ⟨g2, 0, none⟩) ((nsec b.length) * 64) ((nsec b.length) * 64))) (fun _ _ hF => opMove rfl (hF.ev 2 rfl)) rfl (fun _ _ => rfl) (kM [true, true, false, true, true] rfl rfl) (by decide) ?_
  refine pxE 0 hH rfl (fun _ hF => Does.small (settle_v g V A c D E hD (hH.notIn 0 rfl hR.1 hg) (startA V.half h.area) ((nsec b.length) * 64) (padB b) (some ⟨g2, 0, none⟩) ((nsec b.length) * 64) (padB_len b) (hH.off2 0 2 rfl rfl rfl) (by omega) (by rw [padB_len]; omega) (by omega)) (fun w => opCall rfl Try.func38 rfl rfl (Evs.cons (v := (.pointer (some ⟨g, 0, none⟩))) (hF.ev 2 rfl) (Evs.cons (v := (.int .i64 (((startA V.half h.area) : Nat) : Int))) (hF.ev 1 rfl) (Evs.cons (v := (.slice (some ⟨g2, 0, none⟩) ((nsec b.length) * 64) ((nsec b.length) * 64))) (hF.ev 0 rfl) Evs.nil))) w)) ⟨(hH.oldBlk hR.1 hg), (hB6.vu (hH.blk 2 rfl) (padB_len b))⟩ rfl (fun _ _ => rfl) (kM [false, false, false, true, true] rfl rfl) (by decide) ?_
  clear hH
  rintro _ E7 w ⟨rfl, hD8⟩ hH
  replace hH : HH w0 (bks E) [E7, [bl g1 59 #[(.int .i64 (((h.sector) : Nat) : Int)), (.int .u64 (((h.number) : Nat) : Int)), (.int .u64 (((h.size) : Nat) : Int)), (.int .i64 (((h.area) : Nat) : Int))]], [bl g2 5 cur4]] w := hH
  refine pxV (v := (.int .i64 ((((D.lay (startA V.half h.area) (padB b)).1) : Nat) : Int))) (fun _ _ hF => opAssign rfl (hF.ev 0 rfl)) rfl (fun _ _ => rfl) (kM [false, true, true] rfl rfl) (by decide) ?_
  refine pxEnd ?_
  refine qxThen ?_
  refine cxSeq ?_
  refine cxReg ?_
  refine pxV (v := (.int .i64 ((((D.lay (startA V.half h.area) (padB b)).1) : Nat) : Int))) (fun _ _ hF => opMove rfl (hF.ev 0 rfl)) rfl (fun _ _ => rfl) (kA rfl) (by decide) ?_
  refine pxV (v := (.bool (decide ((D.lay (startA V.half h.area) (padB b)).1 ≠ 0)))) (fun _ _ hF => opNeI rfl (hF.ev 0 rfl) rfl (dc (by omega))) rfl (fun _ _ => rfl) (kM [false, true, true, true] rfl rfl) (by decide) ?_
  refine pxEnd ?_
  refine qxThen ?_
  refine cxP 0 rfl rfl (fun hc9 => ?_) (fun hc9 => ?_)
  · refine cxSeq ?_
    refine cxReg ?_
    refine pxV (v := (.int .i64 ((((D.lay (startA V.half h.area) (padB b)).1) : Nat) : Int))) (fun _ _ hF => opMove rfl (hF.ev 1 rfl)) rfl (fun _ _ => rfl) (kM [false, false, false, false] rfl rfl) (by decide) ?_
    refine pxV (v := (.int .i64 ((((D.lay (startA V.half h.area) (padB b)).1) : Nat) : Int))) (fun _ _ hF => opAssign rfl (hF.ev 0 rfl)) rfl (fun _ _ => rfl) (kM [false] rfl rfl) (by decide) ?_
    refine pxEnd ?_
    refine qxThen ?_
    refine cxRet ?_
    refine qxThenR ?_
    refine qxRet1 0 rfl rfl ?_
    have he : V.write D h b = ((D.lay (startA V.half h.area) (padB b)).1, (D.lay (startA V.half h.area) (padB b)).2) := by unfold Vt.write; rw [if_pos hc9]
    exact ⟨_, _, rfl, ⟨by rw [he], by rw [he]; exact hD8⟩, hH.out1 [true, false, false] rfl⟩
  · have hz : (D.lay (startA V.half h.area) (padB b)).2.uns = [] := lay_uns (by omega)
    refine cxSkip ?_
    refine qxThen ?_
    refine cxSeq ?_
    refine cxRegX mixedOrders (by kernel_rfl) ?_
    replace hH := hH.drew
    refine rxV 0 rfl (by kernel_rfl) rfl (fun _ _ => rfl) (fun _ _ hF => opMove rfl (hF.ev 3 rfl)) (kM [false, false, true, false] rfl rfl) (by decide) (v := (.pointer (some ⟨g, 0, none⟩))) ?_
    refine rxV 1 rfl (by kernel_rfl) rfl (fun _ _ => rfl) (fun _ _ hF => opField (off := 0) rfl (hF.ev 1 rfl) (by kernel_rfl)) (kA rfl) (by decide) (v := (.pointer (some ⟨g1, 0, none⟩))) ?_
    refine rxS (fun w => w.heap[g1]? = some (.cells #[(.int .i64 (((h.sector) : Nat) : Int)), (.int .u64 (((h.number) : Nat) : Int)), (.int .u64 (((h.size) : Nat) : Int)), (.int .i64 (((h.area) : Nat) : Int))] 59 (0, 0))) 2 rfl (by kernel_rfl) rfl (fun _ _ => rfl) (hH.blk 1 rfl) (fun _ _ hF hS => opLoadK hS rfl (hF.ev 0 rfl) (by kernel_rfl) rfl) (kM [false, true, true] rfl rfl) (by decide) (v := (.int .i64 (((h.sector) : Nat) : Int))) ?_
    refine rxS (fun w => w.heap[g1]? = some (.cells #[(.int .i64 (((h.sector) : Nat) : Int)), (.int .u64 (((h.number) : Nat) : Int)), (.int .u64 (((h.size) : Nat) : Int)), (.int .i64 (((h.area) : Nat) : Int))] 59 (0, 0))) 3 rfl (by kernel_rfl) rfl (fun _ _ => rfl) (hH.blk 1 rfl) (fun _ _ hF hS => opLoadKR (k := 4) hS rfl (hF.ev 2 rfl) (by kernel_rfl) rfl (by kernel_rfl) rfl) (kM [true, true, false] rfl rfl) (by decide) (v := (.agg #[(.int .i64 (((h.sector) : Nat) : Int)), (.int .u64 (((h.number) : Nat) : Int)), (.int .u64 (((h.size) : Nat) : Int)), (.int .i64 (((h.area) : Nat) : Int))])) ?_
    refine rx1 4 (by kernel_rfl) ?_
    refine moM rfl hH (fun _ hF => Does.small (text_c (((h.sector) : Nat) : Int) h.number h.size h.area) (fun w => opCall rfl Try.func39 rfl rfl (Evs.cons (v := (.agg #[(.int .i64 (((h.sector) : Nat) : Int)), (.int .u64 (((h.number) : Nat) : Int)), (.int .u64 (((h.size) : Nat) : Int)), (.int .i64 (((h.area) : Nat) : Int))])) (hF.ev 0 rfl) Evs.nil) w)) trivial rfl (fun _ _ => rfl) (kM [false, true, true] rfl rfl) (by decide) (PendOk.go [] (by kernel_rfl) (PendOk.keep (PendOk.nil _ []))) ?_
    clear hH
    rintro v14 E10 w hO11 hH
    replace hH : HH w0 (bks E) [E7, [bl g1 59 #[(.int .i64 (((h.sector) : Nat) : Int)), (.int .u64 (((h.number) : Nat) : Int)), (.int .u64 (((h.size) : Nat) : Int)), (.int .i64 (((h.area) : Nat) : Int))]], [bl g2 5 cur4], E10] w := hH
    obtain ⟨A12, c13, rfl⟩ := hO11.slice
    refine ⟨(by
      intro s hs
      simp only [List.mem_cons, List.not_mem_nil, or_false] at hs
      rcases hs with rfl
      · exact (hH.blk 1 rfl)
      ), ?_⟩
    refine rx1 5 (by kernel_rfl) ?_
    refine moE 0 rfl hH rfl (fun _ hF => Does.small (settle_v g V A c ((D.lay (startA V.half h.area) (padB b)).2) E7 hD8 (hH.notIn 0 rfl hR.1 hg) h.sector ((hdL h.number h.size h.area).length) (hdL h.number h.size h.area) A12 c13 (hdL_len _ _ _) (hH.off3 0 3 rfl rfl rfl hO11) (by omega) (by rw [hdL_len]; omega) (by rw [hz]; exact Nat.zero_le _)) (fun w => opCall rfl Try.func38 rfl rfl (Evs.cons (v := (.pointer (some ⟨g, 0, none⟩))) (hF.ev 2 rfl) (Evs.cons (v := (.int .i64 (((h.sector) : Nat) : Int))) (hF.ev 1 rfl) (Evs.cons (v := (.slice A12 ((hdL h.number h.size h.area).length) c13)) (hF.ev 0 rfl) Evs.nil))) w)) ⟨(hH.oldBlk hR.1 hg), (hO11.vuAt (hH.has 3 rfl))⟩ rfl (fun _ _ => rfl) (kM [false, false, false] rfl rfl) (by decide) (PendOk.go [] (by kernel_rfl) (PendOk.nil _ [])) ?_
    clear hH
    rintro _ E16 w ⟨rfl, hD17⟩ hH
    replace hH : HH w0 (bks E) [E16, [bl g1 59 #[(.int .i64 (((h.sector) : Nat) : Int)), (.int .u64 (((h.number) : Nat) : Int)), (.int .u64 (((h.size) : Nat) : Int)), (.int .i64 (((h.area) : Nat) : Int))]], [bl g2 5 cur4], E10] w := hH
    refine ⟨(fun _ hs => by cases hs), ?_⟩
    refine rxV 6 rfl (by kernel_rfl) rfl (fun _ _ => rfl) (fun _ _ hF => opAssign rfl (hF.ev 0 rfl)) (kM [false] rfl rfl) (by decide) (v := (.int .i64 ((((((D.lay (startA V.half h.area) (padB b)).2).lay h.sector (hdL h.number h.size h.area)).1) : Nat) : Int))) ?_
    refine rxEnd (by kernel_rfl) ?_
    refine qxThen ?_
    refine cxRet ?_
    refine qxRet1 0 rfl rfl ?_
    have he : V.write D h b = ((((D.lay (startA V.half h.area) (padB b)).2).lay h.sector (hdL h.number h.size h.area)).1, (((D.lay (startA V.half h.area) (padB b)).2).lay h.sector (hdL h.number h.size h.area)).2) := by unfold Vt.write; rw [if_neg hc9]
    exact ⟨_, _, rfl, ⟨by rw [he], by rw [he]; exact hD17⟩, hH.out1 [true, false, false, false] rfl⟩

set_option maxHeartbeats 8000000 in
theorem keep_v (g : Nat) (V : Vt) (D : Dk) (Ed Ev : Hl) (hD : DkAt V.gd D Ed) (hV : VtAt g V Ev) (b : List UInt8) (Ab : Option Addr) (cb : Nat) (hA : Off Ab b.length (bks ([Ed, Ev] : List Hl).flatten)) (hb : b.length ≤ 140737488355328) (hU : D.uns.length ≤ 700000) : Does Try.prog 14 #[(.pointer (some ⟨g, 0, none⟩)), (.slice Ab b.length cb)] ([Ed, Ev] : List Hl).flatten (fun w => Vu cByte w Ab b.length cb b) (fun v E' => v = .int .i64 ((V.keep D b).1 : Int) ∧ ∃ E1 E2, E' = ([E1, E2] : List Hl).flatten ∧ DkAt V.gd (V.keep D b).2.1 E1 ∧ VtAt g (V.keep D b).2.2 E2) := by
  refine does_of (fn := Try.f14) Try.func14 rfl Try.ntmps14 (Nat.le_of_ble_eq_true rfl) rfl ?_
  intro w0 hH hR
  replace hH : HH w0 (bks ([Ed, Ev] : List Hl).flatten) [Ed, Ev] w0 := hH.cast (by simp)
  have hok := hV.ok; have hhalf := hok.half
  refine cxSeq ?_
  refine cxReg ?_
  refine pxV (v := (.int .i64 0)) (fun _ _ hF => opAssign rfl rfl) rfl (fun _ _ => rfl) (kA rfl) (by decide) ?_
  refine pxEnd ?_
  refine qxThen ?_
  refine cxSeq ?_
  refine cxSeq ?_
  refine cxReg ?_
  refine pxV (v := (.pointer (some ⟨g, 0, none⟩))) (fun _ _ hF => opMove rfl (hF.ev 1 rfl)) rfl (fun _ _ => rfl) (kM [false, true, true] rfl rfl) (by decide) ?_
  refine pxV (v := (.bool false)) (fun _ _ hF => opEqNil (e := 61) rfl (by kernel_rfl) (hF.ev 0 rfl) rfl rfl) rfl (fun _ _ => rfl) (kM [false, true, true] rfl rfl) (by decide) ?_
  refine pxV (v := (.bool false)) (fun _ _ hF => opMove rfl (hF.ev 0 rfl)) rfl (fun _ _ => rfl) (kM [false, true, true] rfl rfl) (by decide) ?_
  refine pxV (v := (.pointer (some ⟨g, 0, none⟩))) (fun _ _ hF => opMove rfl (hF.ev 1 rfl)) rfl (gOn 0 rfl rfl rfl (by decide)) (kA rfl) (by decide) ?_
  refine pxV (v := (.pointer (some ⟨g, 0, none⟩))) (fun _ _ hF => opNilCheck rfl (hF.ev 0 rfl)) rfl (gOn 1 rfl rfl rfl (by decide)) (kM [false, true, true, true] rfl rfl) (by decide) ?_
  refine pxV (v := (.pointer (some ⟨g, 0, none⟩))) (fun _ _ hF => opField (off := 0) rfl (hF.ev 0 rfl) (by kernel_rfl)) rfl (gOn 1 rfl rfl rfl (by decide)) (kM [false, true, true, true] rfl rfl) (by decide) ?_
  obtain ⟨A1, n2, c3, E4, hE6, hO5⟩ := hV.at'
  obtain rfl : n2 = V.kept.length := hO5.len
  replace hH : HH w0 (bks (([Ed, Ev] : List Hl).flatten)) [Ed, [bl g 61 #[(.pointer (some ⟨V.gd, 0, none⟩)), (.int .i64 (((V.half) : Nat) : Int)), (.int .i64 (((V.sector) : Nat) : Int)), (.int .u64 (((V.number) : Nat) : Int)), (.int .u64 (((V.size) : Nat) : Int)), (.int .i64 (((V.area) : Nat) : Int)), (.slice A1 V.kept.length c3), (.bool (V.over))]], E4] w0 := hH.cast (by rw [hE6]; simp)
  refine pxS (v := (.pointer (some ⟨V.gd, 0, none⟩))) (fun w => w.heap[g]? = some (.cells #[(.pointer (some ⟨V.gd, 0, none⟩)), (.int .i64 (((V.half) : Nat) : Int)), (.int .i64 (((V.sector) : Nat) : Int)), (.int .u64 (((V.number) : Nat) : Int)), (.int .u64 (((V.size) : Nat) : Int)), (.int .i64 (((V.area) : Nat) : Int)), (.slice A1 V.kept.length c3), (.bool (V.over))] 61 (0, 0))) (hH.blk 1 rfl) (fun _ _ hF hS => opLoadK hS rfl (hF.ev 0 rfl) (by kernel_rfl) rfl) rfl (gOn 1 rfl rfl rfl (by decide)) (kM [false, true, true, true] rfl rfl) (by decide) ?_
  refine pxV (v := (.bool false)) (fun _ _ hF => opEqNil (e := 55) rfl (by kernel_rfl) (hF.ev 0 rfl) rfl rfl) rfl (gOn 1 rfl rfl rfl (by decide)) (kM [false, true, true, true] rfl rfl) (by decide) ?_
  refine pxV (v := (.bool false)) (fun _ _ hF => opPickF rfl (hF.ev 1 rfl) (hF.ev 0 rfl)) rfl (fun _ _ => rfl) (kM [false, false, true, true] rfl rfl) (by decide) ?_
  refine pxEnd ?_
  refine qxThen ?_
  refine cxF 0 rfl rfl ?_
  refine cxSkip ?_
  refine qxThen ?_
  refine cxSeq ?_
  refine cxSeq ?_
  refine cxReg ?_
  refine pxV (v := (.pointer (some ⟨g, 0, none⟩))) (fun _ _ hF => opMove rfl (hF.ev 1 rfl)) rfl (fun _ _ => rfl) (kM [false, true, true] rfl rfl) (by decide) ?_
  refine pxV (v := (.pointer (some ⟨g, 0, none⟩))) (fun _ _ hF => opNilCheck rfl (hF.ev 0 rfl)) rfl (fun _ _ => rfl) (kM [false, true, true] rfl rfl) (by decide) ?_
  refine pxV (v := (.pointer (some ⟨g, 7, none⟩))) (fun _ _ hF => opField (off := 7) rfl (hF.ev 0 rfl) (by kernel_rfl)) rfl (fun _ _ => rfl) (kM [false, true, true] rfl rfl) (by decide) ?_
  refine pxS (v := (.bool (V.over))) (fun w => w.heap[g]? = some (.cells #[(.pointer (some ⟨V.gd, 0, none⟩)), (.int .i64 (((V.half) : Nat) : Int)), (.int .i64 (((V.sector) : Nat) : Int)), (.int .u64 (((V.number) : Nat) : Int)), (.int .u64 (((V.size) : Nat) : Int)), (.int .i64 (((V.area) : Nat) : Int)), (.slice A1 V.kept.length c3), (.bool (V.over))] 61 (0, 0))) (hH.blk 1 rfl) (fun _ _ hF hS => opLoadK hS rfl (hF.ev 0 rfl) (by kernel_rfl) rfl) rfl (fun _ _ => rfl) (kM [false, true, true] rfl rfl) (by decide) ?_
  refine pxEnd ?_
  refine qxThen ?_
  refine cxB 0 rfl rfl (fun hc7 => ?_) (fun hc7 => ?_)
  · refine cxSeq ?_
    refine cxReg ?_
    refine pxV (v := (.int .i64 8)) (fun _ _ hF => opAssign rfl rfl) rfl (fun _ _ => rfl) (kM [false, false, false] rfl rfl) (by decide) ?_
    refine pxEnd ?_
    refine qxThen ?_
    refine cxRet ?_
    refine qxThenR ?_
    refine qxRet1 0 rfl rfl ?_
    obtain ⟨E8, hE9, hD10⟩ : ∃ E, E = ([[bl g 61 #[(.pointer (some ⟨V.gd, 0, none⟩)), (.int .i64 (((V.half) : Nat) : Int)), (.int .i64 (((V.sector) : Nat) : Int)), (.int .u64 (((V.number) : Nat) : Int)), (.int .u64 (((V.size) : Nat) : Int)), (.int .i64 (((V.area) : Nat) : Int)), (.slice A1 V.kept.length c3), (.bool (V.over))]], E4] : List Hl).flatten ∧ VtAt g V E := ⟨_, rfl, hV.ok, _, _, _, _, rfl, hO5⟩
    replace hH : HH w0 (bks (([Ed, Ev] : List Hl).flatten)) [Ed, E8] w0 := hH.cast (by rw [hE9]; simp)
    have he : V.keep D b = (8, D, V) := by unfold Vt.keep; rw [if_pos hc7]
    exact ⟨_, _, rfl, ⟨by rw [he]; rfl, _, _, rfl, by rw [he]; exact hD, by rw [he]; exact hD10⟩, hH.out [true, true]⟩
  · refine cxSkip ?_
    refine qxThen ?_
    refine cxSeq ?_
    refine cxSeq ?_
    refine cxReg ?_
    refine pxV (v := (.slice Ab b.length cb)) (fun _ _ hF => opMove rfl (hF.ev 2 rfl)) rfl (fun _ _ => rfl) (kM [false, true, true] rfl rfl) (by decide) ?_
    refine pxV (v := (.int .i64 (((b.length) : Nat) : Int))) (fun _ _ hF => opLen (e := 5) rfl (by kernel_rfl) (hF.ev 0 rfl)) rfl (fun _ _ => rfl) (kM [false, true, true] rfl rfl) (by decide) ?_
    refine pxV (v := (.pointer (some ⟨g, 0, none⟩))) (fun _ _ hF => opMove rfl (hF.ev 1 rfl)) rfl (fun _ _ => rfl) (kA rfl) (by decide) ?_
    refine pxM hH (fun _ hF => Does.small ((Pure.as (v := (.int .i64 (((V.half * 64) : Nat) : Int))) (room_c g V A1 c3 hhalf) rfl).does) (fun w => opCall rfl Try.func11 rfl rfl (Evs.cons (v := (.pointer (some ⟨g, 0, none⟩))) (hF.ev 0 rfl) Evs.nil) w)) (hH.blk 1 rfl) rfl (fun _ _ => rfl) (kM [false, true, true, true] rfl rfl) (by decide) ?_
    clear hH
    rintro _ _ w ⟨rfl, rfl⟩ hH
    replace hH : HH w0 (bks (([Ed, Ev] : List Hl).flatten)) [Ed, [bl g 61 #[(.pointer (some ⟨V.gd, 0, none⟩)), (.int .i64 (((V.half) : Nat) : Int)), (.int .i64 (((V.sector) : Nat) : Int)), (.int .u64 (((V.number) : Nat) : Int)), (.int .u64 (((V.size) : Nat) : Int)), (.int .i64 (((V.area) : Nat) : Int)), (.slice A1 V.kept.length c3), (.bool (V.over))]], E4] w := hH.unpad
    refine pxV (v := (.bool (decide (b.length > V.half * 64)))) (fun _ _ hF => opGtr rfl (hF.ev 1 rfl) (hF.ev 0 rfl) (dc (by omega))) rfl (fun _ _ => rfl) (kM [false, false, true, true] rfl rfl) (by decide) ?_
    refine pxEnd ?_
    refine qxThen ?_
    refine cxP 0 rfl rfl (fun hc11 => ?_) (fun hc11 => ?_)
    · refine cxSeq ?_
      refine cxReg ?_
      refine pxV (v := (.int .i64 6)) (fun _ _ hF => opAssign rfl rfl) rfl (fun _ _ => rfl) (kM [false, false, false] rfl rfl) (by decide) ?_
      refine pxEnd ?_
      refine qxThen ?_
      refine cxRet ?_
      refine qxThenR ?_
      refine qxRet1 0 rfl rfl ?_
      obtain ⟨E12, hE13, hD14⟩ : ∃ E, E = ([[bl g 61 #[(.pointer (some ⟨V.gd, 0, none⟩)), (.int .i64 (((V.half) : Nat) : Int)), (.int .i64 (((V.sector) : Nat) : Int)), (.int .u64 (((V.number) : Nat) : Int)), (.int .u64 (((V.size) : Nat) : Int)), (.int .i64 (((V.area) : Nat) : Int)), (.slice A1 V.kept.length c3), (.bool (V.over))]], E4] : List Hl).flatten ∧ VtAt g V E := ⟨_, rfl, hV.ok, _, _, _, _, rfl, hO5⟩
      replace hH : HH w0 (bks (([Ed, Ev] : List Hl).flatten)) [Ed, E12] w := hH.cast (by rw [hE13]; simp)
      have he : V.keep D b = (6, D, V) := by unfold Vt.keep; rw [if_neg (by simp [hc7]), if_pos hc11]
      exact ⟨_, _, rfl, ⟨by rw [he]; rfl, _, _, rfl, by rw [he]; exact hD, by rw [he]; exact hD14⟩, hH.out [true, true]⟩
    · refine cxSkip ?_
      refine qxThen ?_
      refine cxSeq ?_
      refine cxReg ?_
      refine pxV (v := (.pointer (some ⟨g, 0, none⟩))) (fun _ _ hF => opMove rfl (hF.ev 1 rfl)) rfl (fun _ _ => rfl) (kM [false, true, true] rfl rfl) (by decide) ?_
      refine pxV (v := (.pointer (some ⟨g, 0, none⟩))) (fun _ _ hF => opNilCheck rfl (hF.ev 0 rfl)) rfl (fun _ _ => rfl) (kM [false, true, true] rfl rfl) (by decide) ?_
      refine pxV (v := (.pointer (some ⟨g, 2, none⟩))) (fun _ _ hF => opField (off := 2) rfl (hF.ev 0 rfl) (by kernel_rfl)) rfl (fun _ _ => rfl) (kM [false, true, true] rfl rfl) (by decide) ?_
      refine pxS (v := (.agg #[(.int .i64 (((V.sector) : Nat) : Int)), (.int .u64 (((V.number) : Nat) : Int)), (.int .u64 (((V.size) : Nat) : Int)), (.int .i64 (((V.area) : Nat) : Int))])) (fun w => w.heap[g]? = some (.cells #[(.pointer (some ⟨V.gd, 0, none⟩)), (.int .i64 (((V.half) : Nat) : Int)), (.int .i64 (((V.sector) : Nat) : Int)), (.int .u64 (((V.number) : Nat) : Int)), (.int .u64 (((V.size) : Nat) : Int)), (.int .i64 (((V.area) : Nat) : Int)), (.slice A1 V.kept.length c3), (.bool (V.over))] 61 (0, 0))) (hH.blk 1 rfl) (fun _ _ hF hS => opLoadKR (k := 4) hS rfl (hF.ev 0 rfl) (by kernel_rfl) rfl (by kernel_rfl) rfl) rfl (fun _ _ => rfl) (kM [false, true, true] rfl rfl) (by decide) ?_
      refine pxV (v := (.slice Ab b.length cb)) (fun _ _ hF => opMove rfl (hF.ev 2 rfl)) rfl (fun _ _ => rfl) (kA rfl) (by decide) ?_
      refine pxV (v := (.int .i64 (((b.length) : Nat) : Int))) (fun _ _ hF => opLen (e := 5) rfl (by kernel_rfl) (hF.ev 0 rfl)) rfl (fun _ _ => rfl) (kM [false, true, true, true] rfl rfl) (by decide) ?_
      refine pxV (v := (.int .u64 (((b.length) : Nat) : Int))) (fun _ _ hF => opConvU (k' := .u64) rfl rfl (by kernel_rfl) (by kernel_rfl) (hF.ev 0 rfl) (Nat.mod_eq_of_lt (by show _ < 18446744073709551616; omega))) rfl (fun _ _ => rfl) (kM [false, true, true, true] rfl rfl) (by decide) ?_
      refine pxM hH (fun _ hF => Does.small ((next_c V b.length hok).does) (fun w => opCall rfl Try.func29 rfl rfl (Evs.cons (v := (.agg #[(.int .i64 (((V.sector) : Nat) : Int)), (.int .u64 (((V.number) : Nat) : Int)), (.int .u64 (((V.size) : Nat) : Int)), (.int .i64 (((V.area) : Nat) : Int))])) (hF.ev 1 rfl) (Evs.cons (v := (.int .u64 (((b.length) : Nat) : Int))) (hF.ev 0 rfl) Evs.nil)) w)) trivial rfl (fun _ _ => rfl) (kM [false, false, true, true] rfl rfl) (by decide) ?_
      clear hH
      rintro _ _ w ⟨rfl, rfl⟩ hH
      replace hH : HH w0 (bks (([Ed, Ev] : List Hl).flatten)) [Ed, [bl g 61 #[(.pointer (some ⟨V.gd, 0, none⟩)), (.int .i64 (((V.half) : Nat) : Int)), (.int .i64 (((V.sector) : Nat) : Int)), (.int .u64 (((V.number) : Nat) : Int)), (.int .u64 (((V.size) : Nat) : Int)), (.int .i64 (((V.area) : Nat) : Int)), (.slice A1 V.kept.length c3), (.bool (V.over))]], E4] w := hH.unpad
      refine pxM hH (fun _ hF => smAlloc (z := (.agg #[(.int .i64 0), (.int .u64 0), (.int .u64 0), (.int .i64 0)])) rfl (by kernel_rfl) rfl) trivial rfl (fun _ _ => rfl) (kA rfl) (by decide) ?_
      clear hH
      rintro _ _ w ⟨g15, rfl, rfl⟩ hH
      replace hH : HH w0 (bks (([Ed, Ev] : List Hl).flatten)) [Ed, [bl g 61 #[(.pointer (some ⟨V.gd, 0, none⟩)), (.int .i64 (((V.half) : Nat) : Int)), (.int .i64 (((V.sector) : Nat) : Int)), (.int .u64 (((V.number) : Nat) : Int)), (.int .u64 (((V.size) : Nat) : Int)), (.int .i64 (((V.area) : Nat) : Int)), (.slice A1 V.kept.length c3), (.bool (V.over))]], E4, [bl g15 59 #[(.int .i64 0), (.int .u64 0), (.int .u64 0), (.int .i64 0)]]] w := hH
      refine pxE0 3 hH rfl (fun _ hF => smStoreK (k := 4) rfl (hF.ev 0 rfl) (hF.ev 1 rfl) rfl (by kernel_rfl) (leb rfl) rfl rfl) trivial rfl (fun _ _ => rfl) ?_
      clear hH
      rintro _ _ w rfl hH
      replace hH : HH w0 (bks (([Ed, Ev] : List Hl).flatten)) [Ed, [bl g 61 #[(.pointer (some ⟨V.gd, 0, none⟩)), (.int .i64 (((V.half) : Nat) : Int)), (.int .i64 (((V.sector) : Nat) : Int)), (.int .u64 (((V.number) : Nat) : Int)), (.int .u64 (((V.size) : Nat) : Int)), (.int .i64 (((V.area) : Nat) : Int)), (.slice A1 V.kept.length c3), (.bool (V.over))]], E4, [bl g15 59 #[(.int .i64 ((((V.next b.length).sector) : Nat) : Int)), (.int .u64 ((((V.next b.length).number) : Nat) : Int)), (.int .u64 ((((V.next b.length).size) : Nat) : Int)), (.int .i64 ((((V.next b.length).area) : Nat) : Int))]]] w := hH
      refine pxEnd ?_
      refine qxThen ?_
      refine cxSeq ?_
      refine cxSeq ?_
      refine cxReg ?_
      refine pxV (v := (.pointer (some ⟨g, 0, none⟩))) (fun _ _ hF => opMove rfl (hF.ev 2 rfl)) rfl (fun _ _ => rfl) (kM [true, false, true, true] rfl rfl) (by decide) ?_
      refine pxS (v := (.agg #[(.int .i64 ((((V.next b.length).sector) : Nat) : Int)), (.int .u64 ((((V.next b.length).number) : Nat) : Int)), (.int .u64 ((((V.next b.length).size) : Nat) : Int)), (.int .i64 ((((V.next b.length).area) : Nat) : Int))])) (fun w => w.heap[g15]? = some (.cells #[(.int .i64 ((((V.next b.length).sector) : Nat) : Int)), (.int .u64 ((((V.next b.length).number) : Nat) : Int)), (.int .u64 ((((V.next b.length).size) : Nat) : Int)), (.int .i64 ((((V.next b.length).area) : Nat) : Int))] 59 (0, 0))) (hH.blk 3 rfl) (fun _ _ hF hS => opLoadKR (k := 4) hS rfl (hF.ev 1 rfl) (by kernel_rfl) rfl (by kernel_rfl) rfl) rfl (fun _ _ => rfl) (kA rfl) (by decide) ?_
      refine pxV (v := (.slice Ab b.length cb)) (fun _ _ hF => opMove rfl (hF.ev 4 rfl)) rfl (fun _ _ => rfl) (kA rfl) (by decide) ?_
      refine pxE 0 hH rfl (fun _ hF => Does.small (write_v g V A1 c3 D Ed hD (HH.notin hH 0 1 rfl rfl rfl) (V.next b.length) b Ab cb (hH.off 0 rfl hR (by decide) hA) hhalf (next_ok hok (by omega)) (by omega) hU) (fun w => opCall rfl Try.func30 rfl rfl (Evs.cons (v := (.pointer (some ⟨g, 0, none⟩))) (hF.ev 2 rfl) (Evs.cons (v := (.agg #[(.int .i64 ((((V.next b.length).sector) : Nat) : Int)), (.int .u64 ((((V.next b.length).number) : Nat) : Int)), (.int .u64 ((((V.next b.length).size) : Nat) : Int)), (.int .i64 ((((V.next b.length).area) : Nat) : Int))])) (hF.ev 1 rfl) (Evs.cons (v := (.slice Ab b.length cb)) (hF.ev 0 rfl) Evs.nil))) w)) ⟨hH.blk 1 rfl, (hH.vu hR (by decide) hA)⟩ rfl (fun _ _ => rfl) (kM [false, false, false, true, true, true] rfl rfl) (by decide) ?_
      clear hH
      rintro _ E16 w ⟨rfl, hD17⟩ hH
      replace hH : HH w0 (bks (([Ed, Ev] : List Hl).flatten)) [E16, [bl g 61 #[(.pointer (some ⟨V.gd, 0, none⟩)), (.int .i64 (((V.half) : Nat) : Int)), (.int .i64 (((V.sector) : Nat) : Int)), (.int .u64 (((V.number) : Nat) : Int)), (.int .u64 (((V.size) : Nat) : Int)), (.int .i64 (((V.area) : Nat) : Int)), (.slice A1 V.kept.length c3), (.bool (V.over))]], E4, [bl g15 59 #[(.int .i64 ((((V.next b.length).sector) : Nat) : Int)), (.int .u64 ((((V.next b.length).number) : Nat) : Int)), (.int .u64 ((((V.next b.length).size) : Nat) : Int)), (.int .i64 ((((V.next b.length).area) : Nat) : Int))]]] w := hH
      refine pxV (v := (.int .i64 ((((V.write D (V.next b.length) b).1) : Nat) : Int))) (fun _ _ hF => opAssign rfl (hF.ev 0 rfl)) rfl (fun _ _ => rfl) (kM [false, true, true, true] rfl rfl) (by decide) ?_
      refine pxEnd ?_
      refine qxThen ?_
      refine cxSeq ?_
      refine cxReg ?_
      refine pxV (v := (.int .i64 ((((V.write D (V.next b.length) b).1) : Nat) : Int))) (fun _ _ hF => opMove rfl (hF.ev 0 rfl)) rfl (fun _ _ => rfl) (kA rfl) (by decide) ?_
      refine pxV (v := (.bool (decide ((V.write D (V.next b.length) b).1 ≠ 0)))) (fun _ _ hF => opNeI rfl (hF.ev 0 rfl) rfl (dc (by omega))) rfl (fun _ _ => rfl) (kM [false, true, true, true, true] rfl rfl) (by decide) ?_
      refine pxEnd ?_
      refine qxThen ?_
      refine cxP 0 rfl rfl (fun hc18 => ?_) (fun hc18 => ?_)
      · refine cxSeq ?_
        refine cxReg ?_
        refine pxV (v := (.pointer (some ⟨g, 0, none⟩))) (fun _ _ hF => opMove rfl (hF.ev 3 rfl)) rfl (fun _ _ => rfl) (kM [false, true, false, false, false] rfl rfl) (by decide) ?_
        refine pxV (v := (.pointer (some ⟨g, 0, none⟩))) (fun _ _ hF => opNilCheck rfl (hF.ev 0 rfl)) rfl (fun _ _ => rfl) (kM [false, true] rfl rfl) (by decide) ?_
        refine pxV (v := (.pointer (some ⟨g, 7, none⟩))) (fun _ _ hF => opField (off := 7) rfl (hF.ev 0 rfl) (by kernel_rfl)) rfl (fun _ _ => rfl) (kM [false, true] rfl rfl) (by decide) ?_
        refine pxE0 1 hH rfl (fun _ hF => smStore (v := (.bool true)) rfl (hF.ev 0 rfl) rfl (by kernel_rfl) (ltb rfl) rfl rfl) trivial rfl (fun _ _ => rfl) ?_
        clear hH
        rintro _ _ w rfl hH
        replace hH : HH w0 (bks (([Ed, Ev] : List Hl).flatten)) [E16, [bl g 61 #[(.pointer (some ⟨V.gd, 0, none⟩)), (.int .i64 (((V.half) : Nat) : Int)), (.int .i64 (((V.sector) : Nat) : Int)), (.int .u64 (((V.number) : Nat) : Int)), (.int .u64 (((V.size) : Nat) : Int)), (.int .i64 (((V.area) : Nat) : Int)), (.slice A1 V.kept.length c3), (.bool true)]], E4, [bl g15 59 #[(.int .i64 ((((V.next b.length).sector) : Nat) : Int)), (.int .u64 ((((V.next b.length).number) : Nat) : Int)), (.int .u64 ((((V.next b.length).size) : Nat) : Int)), (.int .i64 ((((V.next b.length).area) : Nat) : Int))]]] w := hH
        refine pxEnd ?_
        refine qxThen ?_
        refine cxSeq ?_
        refine cxReg ?_
        refine pxV (v := (.int .i64 ((((V.write D (V.next b.length) b).1) : Nat) : Int))) (fun _ _ hF => opMove rfl (hF.ev 1 rfl)) rfl (fun _ _ => rfl) (kM [false, false] rfl rfl) (by decide) ?_
        refine pxV (v := (.int .i64 ((((V.write D (V.next b.length) b).1) : Nat) : Int))) (fun _ _ hF => opAssign rfl (hF.ev 0 rfl)) rfl (fun _ _ => rfl) (kM [false] rfl rfl) (by decide) ?_
        refine pxEnd ?_
        refine qxThen ?_
        refine cxRet ?_
        refine qxThenR ?_
        refine qxRet1 0 rfl rfl ?_
        obtain ⟨E19, hE20, hD21⟩ : ∃ E, E = ([[bl g 61 #[(.pointer (some ⟨V.gd, 0, none⟩)), (.int .i64 (((V.half) : Nat) : Int)), (.int .i64 (((V.sector) : Nat) : Int)), (.int .u64 (((V.number) : Nat) : Int)), (.int .u64 (((V.size) : Nat) : Int)), (.int .i64 (((V.area) : Nat) : Int)), (.slice A1 V.kept.length c3), (.bool true)]], E4] : List Hl).flatten ∧ VtAt g ({ V with over := true } : Vt) E := ⟨_, rfl, ⟨hok.half, hok.sector, hok.number, hok.size, hok.area⟩, _, _, _, _, rfl, hO5⟩
        replace hH : HH w0 (bks (([Ed, Ev] : List Hl).flatten)) [E16, E19, [bl g15 59 #[(.int .i64 ((((V.next b.length).sector) : Nat) : Int)), (.int .u64 ((((V.next b.length).number) : Nat) : Int)), (.int .u64 ((((V.next b.length).size) : Nat) : Int)), (.int .i64 ((((V.next b.length).area) : Nat) : Int))]]] w := hH.cast (by rw [hE20]; simp)
        have he : V.keep D b = ((V.write D (V.next b.length) b).1, (V.write D (V.next b.length) b).2, ({ V with over := true } : Vt)) := by unfold Vt.keep; rw [if_neg (by simp [hc7]), if_neg hc11, if_pos hc18]
        exact ⟨_, _, rfl, ⟨by rw [he], _, _, rfl, by rw [he]; exact hD17, by rw [he]; exact hD21⟩, hH.out [true, true, false]⟩
      · refine cxSkip ?_
        refine qxThen ?_
        refine cxSeq ?_
        refine cxRegX mixedOrders (by kernel_rfl) ?_
        replace hH := hH.drew
        refine rxV 0 rfl (by kernel_rfl) rfl (fun _ _ => rfl) (fun _ _ hF => opMove rfl (hF.ev 3 rfl)) (kM [false, false, true, true, true] rfl rfl) (by decide) (v := (.pointer (some ⟨g, 0, none⟩))) ?_
        refine rxV 1 rfl (by kernel_rfl) rfl (fun _ _ => rfl) (fun _ _ hF => opMove rfl (hF.ev 2 rfl)) (kM [true, true, false, true] rfl rfl) (by decide) (v := (.pointer (some ⟨g, 0, none⟩))) ?_
        refine rxS (fun w => w.heap[g15]? = some (.cells #[(.int .i64 ((((V.next b.length).sector) : Nat) : Int)), (.int .u64 ((((V.next b.length).number) : Nat) : Int)), (.int .u64 ((((V.next b.length).size) : Nat) : Int)), (.int .i64 ((((V.next b.length).area) : Nat) : Int))] 59 (0, 0))) 2 rfl (by kernel_rfl) rfl (fun _ _ => rfl) (hH.blk 3 rfl) (fun _ _ hF hS => opLoadKR (k := 4) hS rfl (hF.ev 2 rfl) (by kernel_rfl) rfl (by kernel_rfl) rfl) (kM [true, true, false, true] rfl rfl) (by decide) (v := (.agg #[(.int .i64 ((((V.next b.length).sector) : Nat) : Int)), (.int .u64 ((((V.next b.length).number) : Nat) : Int)), (.int .u64 ((((V.next b.length).size) : Nat) : Int)), (.int .i64 ((((V.next b.length).area) : Nat) : Int))])) ?_
        refine rxV 3 rfl (by kernel_rfl) rfl (fun _ _ => rfl) (fun _ _ hF => opMove rfl (hF.ev 3 rfl)) (kM [true, true, true, false] rfl rfl) (by decide) (v := (.slice Ab b.length cb)) ?_
        refine rx1 4 (by kernel_rfl) ?_
        refine moM rfl hH (fun _ hF => Does.small (clone_c Ab b.length cb b hb) (fun w => opCall rfl Try.func28 rfl rfl (Evs.cons (v := (.slice Ab b.length cb)) (hF.ev 0 rfl) Evs.nil) w)) (hH.vu hR (by decide) hA) rfl (fun _ _ => rfl) (kM [false, true, true, true] rfl rfl) (by decide) (PendOk.keep (PendOk.nil _ [])) ?_
        clear hH
        rintro v26 E22 w hO23 hH
        replace hH : HH w0 (bks (([Ed, Ev] : List Hl).flatten)) [E16, [bl g 61 #[(.pointer (some ⟨V.gd, 0, none⟩)), (.int .i64 (((V.half) : Nat) : Int)), (.int .i64 (((V.sector) : Nat) : Int)), (.int .u64 (((V.number) : Nat) : Int)), (.int .u64 (((V.size) : Nat) : Int)), (.int .i64 (((V.area) : Nat) : Int)), (.slice A1 V.kept.length c3), (.bool (V.over))]], E4, [bl g15 59 #[(.int .i64 ((((V.next b.length).sector) : Nat) : Int)), (.int .u64 ((((V.next b.length).number) : Nat) : Int)), (.int .u64 ((((V.next b.length).size) : Nat) : Int)), (.int .i64 ((((V.next b.length).area) : Nat) : Int))]], E22] w := hH
        obtain ⟨A24, c25, rfl⟩ := hO23.slice
        refine ⟨(by
          intro s hs
          simp only [List.mem_cons, List.not_mem_nil, or_false] at hs
          rcases hs with rfl
          · exact (hH.blk 3 rfl)
          ), ?_⟩
        refine rxV 5 rfl (by kernel_rfl) rfl (fun _ _ => rfl) (fun _ _ hF => opNilCheck rfl (hF.ev 3 rfl)) (kM [true, true, true, false] rfl rfl) (by decide) (v := (.pointer (some ⟨g, 0, none⟩))) ?_
        refine rxV 6 rfl (by kernel_rfl) rfl (fun _ _ => rfl) (fun _ _ hF => opField (off := 2) rfl (hF.ev 0 rfl) (by kernel_rfl)) (kM [false, true, true, true] rfl rfl) (by decide) (v := (.pointer (some ⟨g, 2, none⟩))) ?_
        refine rx1 7 (by kernel_rfl) ?_
        refine moE0 1 rfl hH rfl (fun _ hF => smStoreK (k := 4) rfl (hF.ev 0 rfl) (hF.ev 2 rfl) rfl (by kernel_rfl) (leb rfl) rfl rfl) trivial rfl (fun _ _ => rfl) (PendOk.go [] (by kernel_rfl) (PendOk.nil _ [])) ?_
        clear hH
        rintro _ _ w rfl hH
        replace hH : HH w0 (bks (([Ed, Ev] : List Hl).flatten)) [E16, [bl g 61 #[(.pointer (some ⟨V.gd, 0, none⟩)), (.int .i64 (((V.half) : Nat) : Int)), (.int .i64 ((((V.next b.length).sector) : Nat) : Int)), (.int .u64 ((((V.next b.length).number) : Nat) : Int)), (.int .u64 ((((V.next b.length).size) : Nat) : Int)), (.int .i64 ((((V.next b.length).area) : Nat) : Int)), (.slice A1 V.kept.length c3), (.bool (V.over))]], E4, [bl g15 59 #[(.int .i64 ((((V.next b.length).sector) : Nat) : Int)), (.int .u64 ((((V.next b.length).number) : Nat) : Int)), (.int .u64 ((((V.next b.length).size) : Nat) : Int)), (.int .i64 ((((V.next b.length).area) : Nat) : Int))]], E22] w := hH
        refine ⟨(fun _ hs => by cases hs), ?_⟩
        refine rxV 8 rfl (by kernel_rfl) rfl (fun _ _ => rfl) (fun _ _ hF => opNilCheck rfl (hF.ev 3 rfl)) (kM [false, true, false, false] rfl rfl) (by decide) (v := (.pointer (some ⟨g, 0, none⟩))) ?_
        refine rxV 9 rfl (by kernel_rfl) rfl (fun _ _ => rfl) (fun _ _ hF => opField (off := 6) rfl (hF.ev 0 rfl) (by kernel_rfl)) (kM [false, true] rfl rfl) (by decide) (v := (.pointer (some ⟨g, 6, none⟩))) ?_
        refine rx1 10 (by kernel_rfl) ?_
        refine moE0 1 rfl hH rfl (fun _ hF => smStore (v := (.slice A24 b.length c25)) rfl (hF.ev 0 rfl) (hF.ev 1 rfl) (by kernel_rfl) (ltb rfl) rfl rfl) trivial rfl (fun _ _ => rfl) (PendOk.nil _ []) ?_
        clear hH
        rintro _ _ w rfl hH
        replace hH : HH w0 (bks (([Ed, Ev] : List Hl).flatten)) [E16, [bl g 61 #[(.pointer (some ⟨V.gd, 0, none⟩)), (.int .i64 (((V.half) : Nat) : Int)), (.int .i64 ((((V.next b.length).sector) : Nat) : Int)), (.int .u64 ((((V.next b.length).number) : Nat) : Int)), (.int .u64 ((((V.next b.length).size) : Nat) : Int)), (.int .i64 ((((V.next b.length).area) : Nat) : Int)), (.slice A24 b.length c25), (.bool (V.over))]], E4, [bl g15 59 #[(.int .i64 ((((V.next b.length).sector) : Nat) : Int)), (.int .u64 ((((V.next b.length).number) : Nat) : Int)), (.int .u64 ((((V.next b.length).size) : Nat) : Int)), (.int .i64 ((((V.next b.length).area) : Nat) : Int))]], E22] w := hH
        refine ⟨(fun _ hs => by cases hs), ?_⟩
        refine rxEnd (by kernel_rfl) ?_
        refine qxThen ?_
        refine cxSeq ?_
        refine cxReg ?_
        refine pxV (v := (.int .i64 0)) (fun _ _ hF => opAssign rfl rfl) rfl (fun _ _ => rfl) (kM [false, false] rfl rfl) (by decide) ?_
        refine pxEnd ?_
        refine qxThen ?_
        refine cxRet ?_
        refine qxRet1 0 rfl rfl ?_
        replace hH : HH w0 (bks (([Ed, Ev] : List Hl).flatten)) [E16, [bl g 61 #[(.pointer (some ⟨V.gd, 0, none⟩)), (.int .i64 (((V.half) : Nat) : Int)), (.int .i64 ((((V.next b.length).sector) : Nat) : Int)), (.int .u64 ((((V.next b.length).number) : Nat) : Int)), (.int .u64 ((((V.next b.length).size) : Nat) : Int)), (.int .i64 ((((V.next b.length).area) : Nat) : Int)), (.slice A24 b.length c25), (.bool (V.over))]], E22, [bl g15 59 #[(.int .i64 ((((V.next b.length).sector) : Nat) : Int)), (.int .u64 ((((V.next b.length).number) : Nat) : Int)), (.int .u64 ((((V.next b.length).size) : Nat) : Int)), (.int .i64 ((((V.next b.length).area) : Nat) : Int))]]] w := HH.sel hH [0, 1, 4, 3] rfl (by decide)
        obtain ⟨E28, hE29, hD30⟩ : ∃ E, E = ([[bl g 61 #[(.pointer (some ⟨V.gd, 0, none⟩)), (.int .i64 (((V.half) : Nat) : Int)), (.int .i64 ((((V.next b.length).sector) : Nat) : Int)), (.int .u64 ((((V.next b.length).number) : Nat) : Int)), (.int .u64 ((((V.next b.length).size) : Nat) : Int)), (.int .i64 ((((V.next b.length).area) : Nat) : Int)), (.slice A24 b.length c25), (.bool (V.over))]], E22] : List Hl).flatten ∧ VtAt g (V.set (V.next b.length) b) E := ⟨_, rfl, (set_ok hok (next_ok hok (by omega)) b), _, _, _, _, rfl, hO23⟩
        replace hH : HH w0 (bks (([Ed, Ev] : List Hl).flatten)) [E16, E28, [bl g15 59 #[(.int .i64 ((((V.next b.length).sector) : Nat) : Int)), (.int .u64 ((((V.next b.length).number) : Nat) : Int)), (.int .u64 ((((V.next b.length).size) : Nat) : Int)), (.int .i64 ((((V.next b.length).area) : Nat) : Int))]]] w := hH.cast (by rw [hE29]; simp)
        have he : V.keep D b = (0, (V.write D (V.next b.length) b).2, (V.set (V.next b.length) b)) := by unfold Vt.keep; rw [if_neg (by simp [hc7]), if_neg hc11, if_neg hc18]
        exact ⟨_, _, rfl, ⟨by rw [he]; rfl, _, _, rfl, by rw [he]; exact hD17, by rw [he]; exact hD30⟩, hH.out [true, true, false]⟩

theorem read_ok (g : Nat) (D : Dk) (E : Hl) (hD : DkAt g D E) (at_ n : Nat) (hd : D.down = false) (h : at_ + n ≤ D.now.length) : Does Try.prog 24 #[.pointer (some ⟨g, 0, none⟩), .int .i64 (at_ : Int), .int .i64 (n : Int)] E (fun _ => True) (fun v E' => ∃ s E1 E2, v = .tuple #[s, .int .i64 0] ∧ E' = ([E2, E1] : List Hl).flatten ∧ DkAt g D E2 ∧ OwnT cByte 5 s (unsec ((D.now.take (at_ + n)).drop at_)) E1) := by
  have hsz := hD.ok.sz
  refine (read_c g D E hD at_ n (by omega) (by omega) hsz).mono (fun _ h => h) ?_
  rintro v E' ⟨s, E1, E2, rfl, rfl, h1, h2⟩
  have e : D.reads at_ n = (0, unsec ((D.now.take (at_ + n)).drop at_)) := by
    unfold Dk.reads
    rw [if_neg (not_not_intro (show D.has _ _ by unfold Dk.has; omega)), if_neg (by rw [hd]; simp)]
    rfl
  rw [e] at h2
  exact ⟨s, E1, E2, by rw [e]; rfl, rfl, h1, h2⟩
theorem read_dn (g : Nat) (D : Dk) (E : Hl) (hD : DkAt g D E) (at_ n : Nat) (hd : D.down = true) (h : at_ + n ≤ D.now.length) : Does Try.prog 24 #[.pointer (some ⟨g, 0, none⟩), .int .i64 (at_ : Int), .int .i64 (n : Int)] E (fun _ => True) (fun v E' => ∃ s E1 E2, v = .tuple #[s, .int .i64 8] ∧ E' = ([E2, E1] : List Hl).flatten ∧ DkAt g D E2 ∧ OwnT cByte 5 s [] E1) := by
  have hsz := hD.ok.sz
  refine (read_c g D E hD at_ n (by omega) (by omega) hsz).mono (fun _ h => h) ?_
  rintro v E' ⟨s, E1, E2, rfl, rfl, h1, h2⟩
  have e : D.reads at_ n = (8, []) := by
    unfold Dk.reads
    rw [if_neg (not_not_intro (show D.has _ _ by unfold Dk.has; omega)), if_pos hd]
  rw [e] at h2
  exact ⟨s, E1, E2, by rw [e]; rfl, rfl, h1, h2⟩
theorem latest_of (D : Dk) (A : Option Addr) (n c : Nat) (room : Nat) (hn : n = 128) (hl : 4 ≤ D.now.length) (hr : room = halfOf D.now * 64) : Pure Try.prog 25 #[.slice A n c, .int .u64 (room : Int)] (fun w => Vu cByte w A n c (unsec ((D.now.take (0 + 2)).drop 0))) (hdV (headOf D.now)) := by
  subst hr
  have h := latest_c A n c (unsec (D.now.take 2)) (halfOf D.now * 64) hn
  rw [lastB_eq (by omega) 2 (Nat.le_refl _)] at h
  exact h
theorem area_fits {S : List Sec} (h : 4 ≤ S.length) : startA (halfOf S) (headOf S).area + nsec (headOf S).size ≤ S.length := by
  have h1 := latest_ok (halfOf S * 64) S
  have h2 : nsec (headOf S).size ≤ halfOf S := nsec_le h1.size
  have h3 : (headOf S).area * halfOf S ≤ 1 * halfOf S := Nat.mul_le_mul_right _ h1.area
  have h4 : halfOf S = (S.length - 2) / 2 := rfl
  unfold startA
  omega
theorem part_len {S : List Sec} {a n : Nat} (h : a + n ≤ S.length) : (unsec ((S.take (a + n)).drop a)).length = n * 64 := by
  rw [unsec_len, List.length_drop, List.length_take]; omega

set_option maxHeartbeats 8000000 in
theorem open_ok (gd : Nat) (D : Dk) (E : Hl) (hD : DkAt gd D E) (hl : 4 ≤ D.now.length) (hd : D.down = false) : Does Try.prog 10 #[(.pointer (some ⟨gd, 0, none⟩))] E (fun _ => True) (fun v E' => ∃ g E1 E2, v = .tuple #[ptrV g, .int .i64 0] ∧ E' = ([E1, E2] : List Hl).flatten ∧ DkAt gd D E1 ∧ VtAt g (vtOf gd D.now) E2) := by
  refine does_of (fn := Try.f10) Try.func10 rfl Try.ntmps10 (Nat.le_of_ble_eq_true rfl) rfl ?_
  intro w0 hH hR
  have hsz := hD.ok.sz
  have hh0 : halfOf D.now = (D.now.length - 2) / 2 := rfl
  have hho : (headOf D.now).Ok (halfOf D.now * 64) := latest_ok (halfOf D.now * 64) D.now
  have hhz := hho.size
  have hhn := hho.number
  refine cxSeq ?_
  refine cxReg ?_
  refine pxV (v := (.pointer none)) (fun _ _ hF => opAssign rfl rfl) rfl (fun _ _ => rfl) (kA rfl) (by decide) ?_
  refine pxV (v := (.int .i64 0)) (fun _ _ hF => opAssign rfl rfl) rfl (fun _ _ => rfl) (kM [false, true] rfl rfl) (by decide) ?_
  refine pxEnd ?_
  refine qxThen ?_
  refine cxSeq ?_
  refine cxSeq ?_
  refine cxReg ?_
  refine pxV (v := (.pointer (some ⟨gd, 0, none⟩))) (fun _ _ hF => opMove rfl (hF.ev 1 rfl)) rfl (fun _ _ => rfl) (kM [false, true] rfl rfl) (by decide) ?_
  refine pxV (v := (.bool false)) (fun _ _ hF => opEqNil (e := 55) rfl (by kernel_rfl) (hF.ev 0 rfl) rfl rfl) rfl (fun _ _ => rfl) (kM [false, true] rfl rfl) (by decide) ?_
  refine pxV (v := (.bool false)) (fun _ _ hF => opMove rfl (hF.ev 0 rfl)) rfl (fun _ _ => rfl) (kM [false, true] rfl rfl) (by decide) ?_
  refine pxV (v := (.pointer (some ⟨gd, 0, none⟩))) (fun _ _ hF => opMove rfl (hF.ev 1 rfl)) rfl (gOn 0 rfl rfl rfl (by decide)) (kA rfl) (by decide) ?_
  refine pxE 0 hH rfl (fun _ hF => Does.small (sectors_c gd D E hD ) (fun w => opCall rfl Try.func23 rfl rfl (Evs.cons (v := (.pointer (some ⟨gd, 0, none⟩))) (hF.ev 0 rfl) Evs.nil) w)) trivial rfl (gOn 1 rfl rfl rfl (by decide)) (kM [false, true, true] rfl rfl) (by decide) ?_
  clear hH
  rintro _ E1 w ⟨rfl, hD2⟩ hH
  replace hH : HH w0 (bks E) [E1] w := hH
  refine pxV (v := (.bool false)) (fun _ _ hF => opLss rfl (hF.ev 0 rfl) rfl (decide_eq_false (by omega))) rfl (gOn 1 rfl rfl rfl (by decide)) (kM [false, true, true] rfl rfl) (by decide) ?_
  refine pxV (v := (.bool false)) (fun _ _ hF => opPickF rfl (hF.ev 1 rfl) (hF.ev 0 rfl)) rfl (fun _ _ => rfl) (kM [false, false, true] rfl rfl) (by decide) ?_
  refine pxEnd ?_
  refine qxThen ?_
  refine cxF 0 rfl rfl ?_
  refine cxSkip ?_
  refine qxThen ?_
  refine cxSeq ?_
  refine cxReg ?_
  refine pxV (v := (.pointer (some ⟨gd, 0, none⟩))) (fun _ _ hF => opMove rfl (hF.ev 1 rfl)) rfl (fun _ _ => rfl) (kM [false, true] rfl rfl) (by decide) ?_
  refine pxE 0 hH rfl (fun _ hF => Does.small (read_ok gd D E1 hD2 0 2 hd (by omega)) (fun w => opCall rfl Try.func24 rfl rfl (Evs.cons (v := (.pointer (some ⟨gd, 0, none⟩))) (hF.ev 0 rfl) (Evs.cons (v := (.int .i64 0)) rfl (Evs.cons (v := (.int .i64 2)) rfl Evs.nil))) w)) trivial rfl (fun _ _ => rfl) (kM [false, true] rfl rfl) (by decide) ?_
  clear hH
  rintro _ _ w ⟨s3, E4, E5, rfl, rfl, hD6, hO7⟩ hH
  replace hH : HH w0 (bks E) [([E5, E4] : List Hl).flatten] w := hH
  obtain ⟨A8, c9, rfl⟩ := hO7.slice
  replace hH : HH w0 (bks E) [E5, E4] w := hH.cast (by simp)
  refine pxV (v := (.tuple #[(.slice A8 ((unsec ((D.now.take (0 + 2)).drop 0)).length) c9), (.int .i64 0)])) (fun _ _ hF => opMove rfl (hF.ev 0 rfl)) rfl (fun _ _ => rfl) (kM [false, true] rfl rfl) (by decide) ?_
  refine pxV (v := (.slice A8 ((unsec ((D.now.take (0 + 2)).drop 0)).length) c9)) (fun _ _ hF => opExtract rfl (hF.ev 0 rfl) rfl) rfl (fun _ _ => rfl) (kA rfl) (by decide) ?_
  refine pxV (v := (.int .i64 0)) (fun _ _ hF => opExtract rfl (hF.ev 1 rfl) rfl) rfl (fun _ _ => rfl) (kM [true, false, true] rfl rfl) (by decide) ?_
  refine pxV (v := (.slice A8 ((unsec ((D.now.take (0 + 2)).drop 0)).length) c9)) (fun _ _ hF => opAssign rfl (hF.ev 1 rfl)) rfl (fun _ _ => rfl) (kM [true, false, true] rfl rfl) (by decide) ?_
  refine pxV (v := (.int .i64 0)) (fun _ _ hF => opAssign rfl (hF.ev 1 rfl)) rfl (fun _ _ => rfl) (kM [true, false, true] rfl rfl) (by decide) ?_
  refine pxEnd ?_
  refine qxThen ?_
  refine cxSeq ?_
  refine cxSeq ?_
  refine cxReg ?_
  refine pxV (v := (.int .i64 0)) (fun _ _ hF => opMove rfl (hF.ev 0 rfl)) rfl (fun _ _ => rfl) (kA rfl) (by decide) ?_
  refine pxV (v := (.bool false)) (fun _ _ hF => opNeI rfl (hF.ev 0 rfl) rfl (by decide)) rfl (fun _ _ => rfl) (kM [false, true, true, true] rfl rfl) (by decide) ?_
  refine pxEnd ?_
  refine qxThen ?_
  refine cxF 0 rfl rfl ?_
  refine cxSkip ?_
  refine qxThen ?_
  refine cxSeq ?_
  refine cxReg ?_
  refine pxV (v := (.pointer (some ⟨gd, 0, none⟩))) (fun _ _ hF => opMove rfl (hF.ev 3 rfl)) rfl (fun _ _ => rfl) (kM [false, false, true, true] rfl rfl) (by decide) ?_
  refine pxV (v := (.pointer (some ⟨gd, 0, none⟩))) (fun _ _ hF => opMove rfl (hF.ev 2 rfl)) rfl (fun _ _ => rfl) (kA rfl) (by decide) ?_
  refine pxE 0 hH rfl (fun _ hF => Does.small (sectors_c gd D E5 hD6 ) (fun w => opCall rfl Try.func23 rfl rfl (Evs.cons (v := (.pointer (some ⟨gd, 0, none⟩))) (hF.ev 0 rfl) Evs.nil) w)) trivial rfl (fun _ _ => rfl) (kM [false, true, true, true] rfl rfl) (by decide) ?_
  clear hH
  rintro _ E10 w ⟨rfl, hD11⟩ hH
  replace hH : HH w0 (bks E) [E10, E4] w := hH
  refine pxV (v := (.int .i64 (((D.now.length - 2) : Nat) : Int))) (fun _ _ hF => opSub rfl (hF.ev 0 rfl) rfl (wI (by omega) (by omega) (by omega))) rfl (fun _ _ => rfl) (kM [false, true, true, true] rfl rfl) (by decide) ?_
  refine pxV (v := (.int .i64 (((halfOf D.now) : Nat) : Int))) (fun _ _ hF => opQuo rfl (hF.ev 0 rfl) rfl (by omega) (wI quoN (by omega) (by omega))) rfl (fun _ _ => rfl) (kM [false, true, true, true] rfl rfl) (by decide) ?_
  refine pxV (v := (.agg #[(.pointer (some ⟨gd, 0, none⟩)), (.int .i64 (((halfOf D.now) : Nat) : Int)), (.int .i64 0), (.int .u64 0), (.int .u64 0), (.int .i64 0), (.slice none 0 0), (.bool false)])) (fun _ _ hF => opBuildP (cells := #[(.pointer (some ⟨gd, 0, none⟩)), (.int .i64 (((halfOf D.now) : Nat) : Int)), (.int .i64 0), (.int .u64 0), (.int .u64 0), (.int .i64 0), (.slice none 0 0), (.bool false)]) rfl (EvP.cons (v := (.pointer (some ⟨gd, 0, none⟩))) (hF.ev 1 rfl) (EvP.cons (v := (.int .i64 (((halfOf D.now) : Nat) : Int))) (hF.ev 0 rfl) EvP.nil)) rfl _) rfl (fun _ _ => rfl) (kM [false, false, true, true] rfl rfl) (by decide) ?_
  refine pxM hH (fun _ hF => smBox rfl (hF.ev 0 rfl) rfl) trivial rfl (fun _ _ => rfl) (kM [false, true, true] rfl rfl) (by decide) ?_
  clear hH
  rintro _ _ w ⟨g12, rfl, rfl⟩ hH
  replace hH : HH w0 (bks E) [E10, E4, [bl g12 61 #[(.pointer (some ⟨gd, 0, none⟩)), (.int .i64 (((halfOf D.now) : Nat) : Int)), (.int .i64 0), (.int .u64 0), (.int .u64 0), (.int .i64 0), (.slice none 0 0), (.bool false)]]] w := hH
  refine pxV (v := (.pointer (some ⟨g12, 0, none⟩))) (fun _ _ hF => opAssign rfl (hF.ev 0 rfl)) rfl (fun _ _ => rfl) (kM [false, true, true] rfl rfl) (by decide) ?_
  refine pxEnd ?_
  refine qxThen ?_
  refine cxSeq ?_
  refine cxReg ?_
  refine pxV (v := (.pointer (some ⟨g12, 0, none⟩))) (fun _ _ hF => opMove rfl (hF.ev 0 rfl)) rfl (fun _ _ => rfl) (kA rfl) (by decide) ?_
  refine pxV (v := (.slice A8 ((unsec ((D.now.take (0 + 2)).drop 0)).length) c9)) (fun _ _ hF => opMove rfl (hF.ev 2 rfl)) rfl (fun _ _ => rfl) (kM [true, true, false, true] rfl rfl) (by decide) ?_
  refine pxV (v := (.pointer (some ⟨g12, 0, none⟩))) (fun _ _ hF => opMove rfl (hF.ev 2 rfl)) rfl (fun _ _ => rfl) (kA rfl) (by decide) ?_
  refine pxM hH (fun _ hF => Does.small ((Pure.as (v := (.int .i64 ((((halfOf D.now) * 64) : Nat) : Int))) (room_c g12 (⟨gd, halfOf D.now, 0, 0, 0, 0, [], false⟩ : Vt) none 0 (by show halfOf D.now ≤ 1999; omega)) rfl).does) (fun w => opCall rfl Try.func11 rfl rfl (Evs.cons (v := (.pointer (some ⟨g12, 0, none⟩))) (hF.ev 0 rfl) Evs.nil) w)) (hH.blk 2 rfl) rfl (fun _ _ => rfl) (kM [false, true, true, true, true] rfl rfl) (by decide) ?_
  clear hH
  rintro _ _ w ⟨rfl, rfl⟩ hH
  replace hH : HH w0 (bks E) [E10, E4, [bl g12 61 #[(.pointer (some ⟨gd, 0, none⟩)), (.int .i64 (((halfOf D.now) : Nat) : Int)), (.int .i64 0), (.int .u64 0), (.int .u64 0), (.int .i64 0), (.slice none 0 0), (.bool false)]]] w := hH.unpad
  refine pxV (v := (.int .u64 ((((halfOf D.now) * 64) : Nat) : Int))) (fun _ _ hF => opConvU (k' := .u64) rfl rfl (by kernel_rfl) (by kernel_rfl) (hF.ev 0 rfl) (Nat.mod_eq_of_lt (by show _ < 18446744073709551616; omega))) rfl (fun _ _ => rfl) (kM [false, true, true, true, true] rfl rfl) (by decide) ?_
  refine pxM hH (fun _ hF => Does.small ((latest_of D A8 ((unsec ((D.now.take (0 + 2)).drop 0)).length) c9 ((halfOf D.now) * 64) (by rw [part_len (by omega)]) hl rfl).does) (fun w => opCall rfl Try.func25 rfl rfl (Evs.cons (v := (.slice A8 ((unsec ((D.now.take (0 + 2)).drop 0)).length) c9)) (hF.ev 1 rfl) (Evs.cons (v := (.int .u64 ((((halfOf D.now) * 64) : Nat) : Int))) (hF.ev 0 rfl) Evs.nil)) w)) (hO7.vuAt (hH.has 1 rfl)) rfl (fun _ _ => rfl) (kM [false, false, true, true, true] rfl rfl) (by decide) ?_
  clear hH
  rintro _ _ w ⟨rfl, rfl⟩ hH
  replace hH : HH w0 (bks E) [E10, E4, [bl g12 61 #[(.pointer (some ⟨gd, 0, none⟩)), (.int .i64 (((halfOf D.now) : Nat) : Int)), (.int .i64 0), (.int .u64 0), (.int .u64 0), (.int .i64 0), (.slice none 0 0), (.bool false)]]] w := hH.unpad
  refine pxV (v := (.pointer (some ⟨g12, 0, none⟩))) (fun _ _ hF => opNilCheck rfl (hF.ev 1 rfl)) rfl (fun _ _ => rfl) (kM [true, false, true, true] rfl rfl) (by decide) ?_
  refine pxV (v := (.pointer (some ⟨g12, 2, none⟩))) (fun _ _ hF => opField (off := 2) rfl (hF.ev 0 rfl) (by kernel_rfl)) rfl (fun _ _ => rfl) (kM [false, true, true, true] rfl rfl) (by decide) ?_
  refine pxE0 2 hH rfl (fun _ hF => smStoreK (k := 4) rfl (hF.ev 0 rfl) (hF.ev 1 rfl) rfl (by kernel_rfl) (leb rfl) rfl rfl) trivial rfl (fun _ _ => rfl) ?_
  clear hH
  rintro _ _ w rfl hH
  replace hH : HH w0 (bks E) [E10, E4, [bl g12 61 #[(.pointer (some ⟨gd, 0, none⟩)), (.int .i64 (((halfOf D.now) : Nat) : Int)), (.int .i64 ((((headOf D.now).sector) : Nat) : Int)), (.int .u64 ((((headOf D.now).number) : Nat) : Int)), (.int .u64 ((((headOf D.now).size) : Nat) : Int)), (.int .i64 ((((headOf D.now).area) : Nat) : Int)), (.slice none 0 0), (.bool false)]]] w := hH
  refine pxEnd ?_
  refine qxThen ?_
  refine cxSeq ?_
  refine cxRegX mixedOrders (by kernel_rfl) ?_
  replace hH := hH.drew
  refine rxV 0 rfl (by kernel_rfl) rfl (fun _ _ => rfl) (fun _ _ hF => opMove rfl (hF.ev 3 rfl)) (kM [false, false, true, false] rfl rfl) (by decide) (v := (.pointer (some ⟨gd, 0, none⟩))) ?_
  refine rxV 1 rfl (by kernel_rfl) rfl (fun _ _ => rfl) (fun _ _ hF => opMove rfl (hF.ev 1 rfl)) (kA rfl) (by decide) (v := (.pointer (some ⟨g12, 0, none⟩))) ?_
  refine rxV 2 rfl (by kernel_rfl) rfl (fun _ _ => rfl) (fun _ _ hF => opMove rfl (hF.ev 2 rfl)) (kA rfl) (by decide) (v := (.pointer (some ⟨g12, 0, none⟩))) ?_
  refine rxV 3 rfl (by kernel_rfl) rfl (fun _ _ => rfl) (fun _ _ hF => opNilCheck rfl (hF.ev 0 rfl)) (kM [false, true, true, true] rfl rfl) (by decide) (v := (.pointer (some ⟨g12, 0, none⟩))) ?_
  refine rxV 4 rfl (by kernel_rfl) rfl (fun _ _ => rfl) (fun _ _ hF => opField (off := 2) rfl (hF.ev 0 rfl) (by kernel_rfl)) (kM [false, true, true, true] rfl rfl) (by decide) (v := (.pointer (some ⟨g12, 2, none⟩))) ?_
  refine rxV 5 rfl (by kernel_rfl) rfl (fun _ _ => rfl) (fun _ _ hF => opField (off := 3) rfl (hF.ev 0 rfl) (by kernel_rfl)) (kM [false, true, true, true] rfl rfl) (by decide) (v := (.pointer (some ⟨g12, 5, none⟩))) ?_
  refine rxS (fun w => w.heap[g12]? = some (.cells #[(.pointer (some ⟨gd, 0, none⟩)), (.int .i64 (((halfOf D.now) : Nat) : Int)), (.int .i64 ((((headOf D.now).sector) : Nat) : Int)), (.int .u64 ((((headOf D.now).number) : Nat) : Int)), (.int .u64 ((((headOf D.now).size) : Nat) : Int)), (.int .i64 ((((headOf D.now).area) : Nat) : Int)), (.slice none 0 0), (.bool false)] 61 (0, 0))) 6 rfl (by kernel_rfl) rfl (fun _ _ => rfl) (hH.blk 2 rfl) (fun _ _ hF hS => opLoadK hS rfl (hF.ev 0 rfl) (by kernel_rfl) rfl) (kM [false, true, true, true] rfl rfl) (by decide) (v := (.int .i64 ((((headOf D.now).area) : Nat) : Int))) ?_
  refine rxV 8 rfl (by kernel_rfl) rfl (fun _ _ => rfl) (fun _ _ hF => opMove rfl (hF.ev 3 rfl)) (kA rfl) (by decide) (v := (.pointer (some ⟨g12, 0, none⟩))) ?_
  refine rxV 9 rfl (by kernel_rfl) rfl (fun _ _ => rfl) (fun _ _ hF => opNilCheck rfl (hF.ev 0 rfl)) (kM [false, true, true, true, true] rfl rfl) (by decide) (v := (.pointer (some ⟨g12, 0, none⟩))) ?_
  refine rxV 10 rfl (by kernel_rfl) rfl (fun _ _ => rfl) (fun _ _ hF => opField (off := 2) rfl (hF.ev 0 rfl) (by kernel_rfl)) (kM [false, true, true, true, true] rfl rfl) (by decide) (v := (.pointer (some ⟨g12, 2, none⟩))) ?_
  refine rxV 11 rfl (by kernel_rfl) rfl (fun _ _ => rfl) (fun _ _ hF => opField (off := 2) rfl (hF.ev 0 rfl) (by kernel_rfl)) (kM [false, true, true, true, true] rfl rfl) (by decide) (v := (.pointer (some ⟨g12, 4, none⟩))) ?_
  refine rxS (fun w => w.heap[g12]? = some (.cells #[(.pointer (some ⟨gd, 0, none⟩)), (.int .i64 (((halfOf D.now) : Nat) : Int)), (.int .i64 ((((headOf D.now).sector) : Nat) : Int)), (.int .u64 ((((headOf D.now).number) : Nat) : Int)), (.int .u64 ((((headOf D.now).size) : Nat) : Int)), (.int .i64 ((((headOf D.now).area) : Nat) : Int)), (.slice none 0 0), (.bool false)] 61 (0, 0))) 12 rfl (by kernel_rfl) rfl (fun _ _ => rfl) (hH.blk 2 rfl) (fun _ _ hF hS => opLoadK hS rfl (hF.ev 0 rfl) (by kernel_rfl) rfl) (kM [false, true, true, true, true] rfl rfl) (by decide) (v := (.int .u64 ((((headOf D.now).size) : Nat) : Int))) ?_
  refine rxV 13 rfl (by kernel_rfl) rfl (fun _ _ => rfl) (fun _ _ hF => opConvI (k' := .i64) rfl (by kernel_rfl) (by kernel_rfl) (hF.ev 0 rfl) (wI rfl (by omega) (by omega))) (kM [false, true, true, true, true] rfl rfl) (by decide) (v := (.int .i64 ((((headOf D.now).size) : Nat) : Int))) ?_
  refine rx1 7 (by kernel_rfl) ?_
  refine moM rfl hH (fun _ hF => Does.small ((Pure.as (v := (.int .i64 (((startA (halfOf D.now) ((headOf D.now).area)) : Nat) : Int))) (start_c g12 (⟨gd, halfOf D.now, (headOf D.now).sector, (headOf D.now).number, (headOf D.now).size, (headOf D.now).area, [], false⟩ : Vt) none 0 ((headOf D.now).area) (by show halfOf D.now ≤ 1999; omega) hho.area) rfl).does) (fun w => opCall rfl Try.func26 rfl rfl (Evs.cons (v := (.pointer (some ⟨g12, 0, none⟩))) (hF.ev 2 rfl) (Evs.cons (v := (.int .i64 ((((headOf D.now).area) : Nat) : Int))) (hF.ev 1 rfl) Evs.nil)) w)) (hH.blk 2 rfl) rfl (fun _ _ => rfl) (kM [true, false, false, true, true] rfl rfl) (by decide) (PendOk.keep (PendOk.go [] (by kernel_rfl) (PendOk.nil _ []))) ?_
  clear hH
  rintro _ _ w ⟨rfl, rfl⟩ hH
  replace hH : HH w0 (bks E) [E10, E4, [bl g12 61 #[(.pointer (some ⟨gd, 0, none⟩)), (.int .i64 (((halfOf D.now) : Nat) : Int)), (.int .i64 ((((headOf D.now).sector) : Nat) : Int)), (.int .u64 ((((headOf D.now).number) : Nat) : Int)), (.int .u64 ((((headOf D.now).size) : Nat) : Int)), (.int .i64 ((((headOf D.now).area) : Nat) : Int)), (.slice none 0 0), (.bool false)]]] w := hH.unpad
  refine ⟨(by
    intro s hs
    simp only [List.mem_cons, List.not_mem_nil, or_false] at hs
    rcases hs with rfl
    · exact (hH.blk 2 rfl)
    ), ?_⟩
  refine rx1 14 (by kernel_rfl) ?_
  refine moM rfl hH (fun _ hF => Does.small ((sectors_v ((headOf D.now).size) (by have := hho.size; omega)).does) (fun w => opCall rfl Try.func27 rfl rfl (Evs.cons (v := (.int .i64 ((((headOf D.now).size) : Nat) : Int))) (hF.ev 1 rfl) Evs.nil) w)) trivial rfl (fun _ _ => rfl) (kM [true, false, true, true] rfl rfl) (by decide) (PendOk.go [13] (by kernel_rfl) (PendOk.nil _ [])) ?_
  clear hH
  rintro _ _ w ⟨rfl, rfl⟩ hH
  replace hH : HH w0 (bks E) [E10, E4, [bl g12 61 #[(.pointer (some ⟨gd, 0, none⟩)), (.int .i64 (((halfOf D.now) : Nat) : Int)), (.int .i64 ((((headOf D.now).sector) : Nat) : Int)), (.int .u64 ((((headOf D.now).number) : Nat) : Int)), (.int .u64 ((((headOf D.now).size) : Nat) : Int)), (.int .i64 ((((headOf D.now).area) : Nat) : Int)), (.slice none 0 0), (.bool false)]]] w := hH.unpad
  refine ⟨(fun _ hs => by cases hs), ?_⟩
  refine rx1 15 (by kernel_rfl) ?_
  refine moE 0 rfl hH rfl (fun _ hF => Does.small (read_ok gd D E10 hD11 (startA (halfOf D.now) ((headOf D.now).area)) (nsec ((headOf D.now).size)) hd (area_fits hl)) (fun w => opCall rfl Try.func24 rfl rfl (Evs.cons (v := (.pointer (some ⟨gd, 0, none⟩))) (hF.ev 2 rfl) (Evs.cons (v := (.int .i64 (((startA (halfOf D.now) ((headOf D.now).area)) : Nat) : Int))) (hF.ev 1 rfl) (Evs.cons (v := (.int .i64 (((nsec ((headOf D.now).size)) : Nat) : Int))) (hF.ev 0 rfl) Evs.nil))) w)) trivial rfl (fun _ _ => rfl) (kM [false, false, false, true] rfl rfl) (by decide) (PendOk.nil _ []) ?_
  clear hH
  rintro _ _ w ⟨s13, E14, E15, rfl, rfl, hD16, hO17⟩ hH
  replace hH : HH w0 (bks E) [([E15, E14] : List Hl).flatten, E4, [bl g12 61 #[(.pointer (some ⟨gd, 0, none⟩)), (.int .i64 (((halfOf D.now) : Nat) : Int)), (.int .i64 ((((headOf D.now).sector) : Nat) : Int)), (.int .u64 ((((headOf D.now).number) : Nat) : Int)), (.int .u64 ((((headOf D.now).size) : Nat) : Int)), (.int .i64 ((((headOf D.now).area) : Nat) : Int)), (.slice none 0 0), (.bool false)]]] w := hH
  obtain ⟨A18, c19, rfl⟩ := hO17.slice
  replace hH : HH w0 (bks E) [E15, E14, E4, [bl g12 61 #[(.pointer (some ⟨gd, 0, none⟩)), (.int .i64 (((halfOf D.now) : Nat) : Int)), (.int .i64 ((((headOf D.now).sector) : Nat) : Int)), (.int .u64 ((((headOf D.now).number) : Nat) : Int)), (.int .u64 ((((headOf D.now).size) : Nat) : Int)), (.int .i64 ((((headOf D.now).area) : Nat) : Int)), (.slice none 0 0), (.bool false)]]] w := hH.cast (by simp)
  refine ⟨(fun _ hs => by cases hs), ?_⟩
  refine rxV 16 rfl (by kernel_rfl) rfl (fun _ _ => rfl) (fun _ _ hF => opMove rfl (hF.ev 0 rfl)) (kM [false, true] rfl rfl) (by decide) (v := (.tuple #[(.slice A18 ((unsec ((D.now.take ((startA (halfOf D.now) ((headOf D.now).area)) + (nsec ((headOf D.now).size)))).drop (startA (halfOf D.now) ((headOf D.now).area)))).length) c19), (.int .i64 0)])) ?_
  refine rxV 17 rfl (by kernel_rfl) rfl (fun _ _ => rfl) (fun _ _ hF => opExtract rfl (hF.ev 0 rfl) rfl) (kA rfl) (by decide) (v := (.slice A18 ((unsec ((D.now.take ((startA (halfOf D.now) ((headOf D.now).area)) + (nsec ((headOf D.now).size)))).drop (startA (halfOf D.now) ((headOf D.now).area)))).length) c19)) ?_
  refine rxV 18 rfl (by kernel_rfl) rfl (fun _ _ => rfl) (fun _ _ hF => opExtract rfl (hF.ev 1 rfl) rfl) (kM [true, false, true] rfl rfl) (by decide) (v := (.int .i64 0)) ?_
  refine rxV 19 rfl (by kernel_rfl) rfl (fun _ _ => rfl) (fun _ _ hF => opAssign rfl (hF.ev 1 rfl)) (kM [true, false, true] rfl rfl) (by decide) (v := (.slice A18 ((unsec ((D.now.take ((startA (halfOf D.now) ((headOf D.now).area)) + (nsec ((headOf D.now).size)))).drop (startA (halfOf D.now) ((headOf D.now).area)))).length) c19)) ?_
  refine rxV 20 rfl (by kernel_rfl) rfl (fun _ _ => rfl) (fun _ _ hF => opAssign rfl (hF.ev 1 rfl)) (kM [true, false, true] rfl rfl) (by decide) (v := (.int .i64 0)) ?_
  refine rxEnd (by kernel_rfl) ?_
  refine qxThen ?_
  refine cxSeq ?_
  refine cxSeq ?_
  refine cxReg ?_
  refine pxV (v := (.int .i64 0)) (fun _ _ hF => opMove rfl (hF.ev 0 rfl)) rfl (fun _ _ => rfl) (kA rfl) (by decide) ?_
  refine pxV (v := (.bool false)) (fun _ _ hF => opNeI rfl (hF.ev 0 rfl) rfl (by decide)) rfl (fun _ _ => rfl) (kM [false, true, true, true] rfl rfl) (by decide) ?_
  refine pxEnd ?_
  refine qxThen ?_
  refine cxF 0 rfl rfl ?_
  refine cxSkip ?_
  refine qxThen ?_
  refine cxSeq ?_
  have hcap := hO17.capLe
  have hpl := part_len (area_fits hl)
  have hns := (show (headOf D.now).size ≤ nsec (headOf D.now).size * 64 by unfold nsec; omega)
  refine cxReg ?_
  refine pxV (v := (.pointer (some ⟨g12, 0, none⟩))) (fun _ _ hF => opMove rfl (hF.ev 3 rfl)) rfl (fun _ _ => rfl) (kM [false, false, true, true] rfl rfl) (by decide) ?_
  refine pxV (v := (.slice A18 ((unsec ((D.now.take ((startA (halfOf D.now) ((headOf D.now).area)) + (nsec ((headOf D.now).size)))).drop (startA (halfOf D.now) ((headOf D.now).area)))).length) c19)) (fun _ _ hF => opMove rfl (hF.ev 1 rfl)) rfl (fun _ _ => rfl) (kM [true, false, true] rfl rfl) (by decide) ?_
  refine pxV (v := (.pointer (some ⟨g12, 0, none⟩))) (fun _ _ hF => opMove rfl (hF.ev 2 rfl)) rfl (fun _ _ => rfl) (kA rfl) (by decide) ?_
  refine pxV (v := (.pointer (some ⟨g12, 0, none⟩))) (fun _ _ hF => opNilCheck rfl (hF.ev 0 rfl)) rfl (fun _ _ => rfl) (kM [false, true, true, true] rfl rfl) (by decide) ?_
  refine pxV (v := (.pointer (some ⟨g12, 2, none⟩))) (fun _ _ hF => opField (off := 2) rfl (hF.ev 0 rfl) (by kernel_rfl)) rfl (fun _ _ => rfl) (kM [false, true, true, true] rfl rfl) (by decide) ?_
  refine pxV (v := (.pointer (some ⟨g12, 4, none⟩))) (fun _ _ hF => opField (off := 2) rfl (hF.ev 0 rfl) (by kernel_rfl)) rfl (fun _ _ => rfl) (kM [false, true, true, true] rfl rfl) (by decide) ?_
  refine pxS (v := (.int .u64 ((((headOf D.now).size) : Nat) : Int))) (fun w => w.heap[g12]? = some (.cells #[(.pointer (some ⟨gd, 0, none⟩)), (.int .i64 (((halfOf D.now) : Nat) : Int)), (.int .i64 ((((headOf D.now).sector) : Nat) : Int)), (.int .u64 ((((headOf D.now).number) : Nat) : Int)), (.int .u64 ((((headOf D.now).size) : Nat) : Int)), (.int .i64 ((((headOf D.now).area) : Nat) : Int)), (.slice none 0 0), (.bool false)] 61 (0, 0))) (hH.blk 3 rfl) (fun _ _ hF hS => opLoadK hS rfl (hF.ev 0 rfl) (by kernel_rfl) rfl) rfl (fun _ _ => rfl) (kM [false, true, true, true] rfl rfl) (by decide) ?_
  refine pxV (v := (.slice A18 ((headOf D.now).size) c19)) (fun _ _ hF => opCutH (h := (headOf D.now).size) (e := 5) (sz := 1) rfl (by kernel_rfl) (by kernel_rfl) (hF.ev 1 rfl) (hF.ev 0 rfl) rfl (by omega)) rfl (fun _ _ => rfl) (kM [false, false, true, true] rfl rfl) (by decide) ?_
  refine pxV (v := (.pointer (some ⟨g12, 0, none⟩))) (fun _ _ hF => opNilCheck rfl (hF.ev 1 rfl)) rfl (fun _ _ => rfl) (kM [true, false, true] rfl rfl) (by decide) ?_
  refine pxV (v := (.pointer (some ⟨g12, 6, none⟩))) (fun _ _ hF => opField (off := 6) rfl (hF.ev 0 rfl) (by kernel_rfl)) rfl (fun _ _ => rfl) (kM [false, true, true] rfl rfl) (by decide) ?_
  refine pxE0 3 hH rfl (fun _ hF => smStore (v := (.slice A18 ((headOf D.now).size) c19)) rfl (hF.ev 0 rfl) (hF.ev 1 rfl) (by kernel_rfl) (ltb rfl) rfl rfl) trivial rfl (fun _ _ => rfl) ?_
  clear hH
  rintro _ _ w rfl hH
  replace hH : HH w0 (bks E) [E15, E14, E4, [bl g12 61 #[(.pointer (some ⟨gd, 0, none⟩)), (.int .i64 (((halfOf D.now) : Nat) : Int)), (.int .i64 ((((headOf D.now).sector) : Nat) : Int)), (.int .u64 ((((headOf D.now).number) : Nat) : Int)), (.int .u64 ((((headOf D.now).size) : Nat) : Int)), (.int .i64 ((((headOf D.now).area) : Nat) : Int)), (.slice A18 ((headOf D.now).size) c19), (.bool false)]]] w := hH
  refine pxEnd ?_
  refine qxThen ?_
  refine cxSeq ?_
  refine cxReg ?_
  refine pxV (v := (.pointer (some ⟨g12, 0, none⟩))) (fun _ _ hF => opMove rfl (hF.ev 2 rfl)) rfl (fun _ _ => rfl) (kM [false, false, false] rfl rfl) (by decide) ?_
  refine pxV (v := (.pointer (some ⟨g12, 0, none⟩))) (fun _ _ hF => opAssign rfl (hF.ev 0 rfl)) rfl (fun _ _ => rfl) (kM [false] rfl rfl) (by decide) ?_
  refine pxV (v := (.int .i64 0)) (fun _ _ hF => opAssign rfl rfl) rfl (fun _ _ => rfl) (kA rfl) (by decide) ?_
  refine pxEnd ?_
  refine qxThen ?_
  refine cxRet ?_
  refine qxRet2 1 0 rfl rfl rfl ?_
  replace hH : HH w0 (bks E) [E15, E4, [bl g12 61 #[(.pointer (some ⟨gd, 0, none⟩)), (.int .i64 (((halfOf D.now) : Nat) : Int)), (.int .i64 ((((headOf D.now).sector) : Nat) : Int)), (.int .u64 ((((headOf D.now).number) : Nat) : Int)), (.int .u64 ((((headOf D.now).size) : Nat) : Int)), (.int .i64 ((((headOf D.now).area) : Nat) : Int)), (.slice A18 ((headOf D.now).size) c19), (.bool false)]], E14] w := HH.sel hH [0, 2, 3, 1] rfl (by decide)
  obtain ⟨E20, hE21, hD22⟩ : ∃ E, E = ([[bl g12 61 #[(.pointer (some ⟨gd, 0, none⟩)), (.int .i64 (((halfOf D.now) : Nat) : Int)), (.int .i64 ((((headOf D.now).sector) : Nat) : Int)), (.int .u64 ((((headOf D.now).number) : Nat) : Int)), (.int .u64 ((((headOf D.now).size) : Nat) : Int)), (.int .i64 ((((headOf D.now).area) : Nat) : Int)), (.slice A18 ((headOf D.now).size) c19), (.bool false)]], E14] : List Hl).flatten ∧ VtAt g12 (vtOf gd D.now) E := ⟨_, rfl, (vtOf_ok hsz), _, _, _, _, rfl, (hO17.take (by omega))⟩
  replace hH : HH w0 (bks E) [E15, E4, E20] w := hH.cast (by rw [hE21]; simp)
  exact ⟨_, _, rfl, ⟨g12, _, _, rfl, rfl, hD16, hD22⟩, hH.out [true, false, true]⟩

set_option maxHeartbeats 8000000 in
theorem open_dn (gd : Nat) (D : Dk) (E : Hl) (hD : DkAt gd D E) (hl : 4 ≤ D.now.length) (hd : D.down = true) : Does Try.prog 10 #[(.pointer (some ⟨gd, 0, none⟩))] E (fun _ => True) (fun v E' => v = .tuple #[.pointer none, .int .i64 8] ∧ DkAt gd D E') := by
  refine does_of (fn := Try.f10) Try.func10 rfl Try.ntmps10 (Nat.le_of_ble_eq_true rfl) rfl ?_
  intro w0 hH hR
  have hsz := hD.ok.sz
  have hh0 : halfOf D.now = (D.now.length - 2) / 2 := rfl
  have hho : (headOf D.now).Ok (halfOf D.now * 64) := latest_ok (halfOf D.now * 64) D.now
  have hhz := hho.size
  have hhn := hho.number
  refine cxSeq ?_
  refine cxReg ?_
  refine pxV (v := (.pointer none)) (fun _ _ hF => opAssign rfl rfl) rfl (fun _ _ => rfl) (kA rfl) (by decide) ?_
  refine pxV (v := (.int .i64 0)) (fun _ _ hF => opAssign rfl rfl) rfl (fun _ _ => rfl) (kM [false, true] rfl rfl) (by decide) ?_
  refine pxEnd ?_
  refine qxThen ?_
  refine cxSeq ?_
  refine cxSeq ?_
  refine cxReg ?_
  refine pxV (v := (.pointer (some ⟨gd, 0, none⟩))) (fun _ _ hF => opMove rfl (hF.ev 1 rfl)) rfl (fun _ _ => rfl) (kM [false, true] rfl rfl) (by decide) ?_
  refine pxV (v := (.bool false)) (fun _ _ hF => opEqNil (e := 55) rfl (by kernel_rfl) (hF.ev 0 rfl) rfl rfl) rfl (fun _ _ => rfl) (kM [false, true] rfl rfl) (by decide) ?_
  refine pxV (v := (.bool false)) (fun _ _ hF => opMove rfl (hF.ev 0 rfl)) rfl (fun _ _ => rfl) (kM [false, true] rfl rfl) (by decide) ?_
  refine pxV (v := (.pointer (some ⟨gd, 0, none⟩))) (fun _ _ hF => opMove rfl (hF.ev 1 rfl)) rfl (gOn 0 rfl rfl rfl (by decide)) (kA rfl) (by decide) ?_
  refine pxE 0 hH rfl (fun _ hF => Does.small (sectors_c gd D E hD ) (fun w => opCall rfl Try.func23 rfl rfl (Evs.cons (v := (.pointer (some ⟨gd, 0, none⟩))) (hF.ev 0 rfl) Evs.nil) w)) trivial rfl (gOn 1 rfl rfl rfl (by decide)) (kM [false, true, true] rfl rfl) (by decide) ?_
  clear hH
  rintro _ E1 w ⟨rfl, hD2⟩ hH
  replace hH : HH w0 (bks E) [E1] w := hH
  refine pxV (v := (.bool false)) (fun _ _ hF => opLss rfl (hF.ev 0 rfl) rfl (decide_eq_false (by omega))) rfl (gOn 1 rfl rfl rfl (by decide)) (kM [false, true, true] rfl rfl) (by decide) ?_
  refine pxV (v := (.bool false)) (fun _ _ hF => opPickF rfl (hF.ev 1 rfl) (hF.ev 0 rfl)) rfl (fun _ _ => rfl) (kM [false, false, true] rfl rfl) (by decide) ?_
  refine pxEnd ?_
  refine qxThen ?_
  refine cxF 0 rfl rfl ?_
  refine cxSkip ?_
  refine qxThen ?_
  refine cxSeq ?_
  refine cxReg ?_
  refine pxV (v := (.pointer (some ⟨gd, 0, none⟩))) (fun _ _ hF => opMove rfl (hF.ev 1 rfl)) rfl (fun _ _ => rfl) (kM [false, true] rfl rfl) (by decide) ?_
  refine pxE 0 hH rfl (fun _ hF => Does.small (read_dn gd D E1 hD2 0 2 hd (by omega)) (fun w => opCall rfl Try.func24 rfl rfl (Evs.cons (v := (.pointer (some ⟨gd, 0, none⟩))) (hF.ev 0 rfl) (Evs.cons (v := (.int .i64 0)) rfl (Evs.cons (v := (.int .i64 2)) rfl Evs.nil))) w)) trivial rfl (fun _ _ => rfl) (kM [false, true] rfl rfl) (by decide) ?_
  clear hH
  rintro _ _ w ⟨s3, E4, E5, rfl, rfl, hD6, hO7⟩ hH
  replace hH : HH w0 (bks E) [([E5, E4] : List Hl).flatten] w := hH
  obtain ⟨A8, c9, rfl⟩ := hO7.slice
  replace hH : HH w0 (bks E) [E5, E4] w := hH.cast (by simp)
  refine pxV (v := (.tuple #[(.slice A8 ([].length) c9), (.int .i64 8)])) (fun _ _ hF => opMove rfl (hF.ev 0 rfl)) rfl (fun _ _ => rfl) (kM [false, true] rfl rfl) (by decide) ?_
  refine pxV (v := (.slice A8 ([].length) c9)) (fun _ _ hF => opExtract rfl (hF.ev 0 rfl) rfl) rfl (fun _ _ => rfl) (kA rfl) (by decide) ?_
  refine pxV (v := (.int .i64 8)) (fun _ _ hF => opExtract rfl (hF.ev 1 rfl) rfl) rfl (fun _ _ => rfl) (kM [true, false, true] rfl rfl) (by decide) ?_
  refine pxV (v := (.slice A8 ([].length) c9)) (fun _ _ hF => opAssign rfl (hF.ev 1 rfl)) rfl (fun _ _ => rfl) (kM [true, false, true] rfl rfl) (by decide) ?_
  refine pxV (v := (.int .i64 8)) (fun _ _ hF => opAssign rfl (hF.ev 1 rfl)) rfl (fun _ _ => rfl) (kM [true, false, true] rfl rfl) (by decide) ?_
  refine pxEnd ?_
  refine qxThen ?_
  refine cxSeq ?_
  refine cxSeq ?_
  refine cxReg ?_
  refine pxV (v := (.int .i64 8)) (fun _ _ hF => opMove rfl (hF.ev 0 rfl)) rfl (fun _ _ => rfl) (kA rfl) (by decide) ?_
  refine pxV (v := (.bool true)) (fun _ _ hF => opNeI rfl (hF.ev 0 rfl) rfl (by decide)) rfl (fun _ _ => rfl) (kM [false, true, true, true] rfl rfl) (by decide) ?_
  refine pxEnd ?_
  refine qxThen ?_
  refine cxT 0 rfl rfl ?_
  refine cxSeq ?_
  refine cxReg ?_
  refine pxV (v := (.int .i64 8)) (fun _ _ hF => opMove rfl (hF.ev 1 rfl)) rfl (fun _ _ => rfl) (kM [false, false, false, false] rfl rfl) (by decide) ?_
  refine pxV (v := (.pointer none)) (fun _ _ hF => opAssign rfl rfl) rfl (fun _ _ => rfl) (kA rfl) (by decide) ?_
  refine pxV (v := (.int .i64 8)) (fun _ _ hF => opAssign rfl (hF.ev 1 rfl)) rfl (fun _ _ => rfl) (kM [true, false] rfl rfl) (by decide) ?_
  refine pxEnd ?_
  refine qxThen ?_
  refine cxRet ?_
  refine qxThenR ?_
  refine qxRet2 1 0 rfl rfl rfl ?_
  exact ⟨_, _, rfl, ⟨rfl, hD6⟩, hH.out1 [true, false] rfl⟩

set_option maxHeartbeats 8000000 in
theorem open_sh (gd : Nat) (D : Dk) (E : Hl) (hD : DkAt gd D E) (hl : D.now.length < 4) : Does Try.prog 10 #[(.pointer (some ⟨gd, 0, none⟩))] E (fun _ => True) (fun v E' => v = .tuple #[.pointer none, .int .i64 1] ∧ DkAt gd D E') := by
  refine does_of (fn := Try.f10) Try.func10 rfl Try.ntmps10 (Nat.le_of_ble_eq_true rfl) rfl ?_
  intro w0 hH hR
  refine cxSeq ?_
  refine cxReg ?_
  refine pxV (v := (.pointer none)) (fun _ _ hF => opAssign rfl rfl) rfl (fun _ _ => rfl) (kA rfl) (by decide) ?_
  refine pxV (v := (.int .i64 0)) (fun _ _ hF => opAssign rfl rfl) rfl (fun _ _ => rfl) (kM [false, true] rfl rfl) (by decide) ?_
  refine pxEnd ?_
  refine qxThen ?_
  refine cxSeq ?_
  refine cxSeq ?_
  refine cxReg ?_
  refine pxV (v := (.pointer (some ⟨gd, 0, none⟩))) (fun _ _ hF => opMove rfl (hF.ev 1 rfl)) rfl (fun _ _ => rfl) (kM [false, true] rfl rfl) (by decide) ?_
  refine pxV (v := (.bool false)) (fun _ _ hF => opEqNil (e := 55) rfl (by kernel_rfl) (hF.ev 0 rfl) rfl rfl) rfl (fun _ _ => rfl) (kM [false, true] rfl rfl) (by decide) ?_
  refine pxV (v := (.bool false)) (fun _ _ hF => opMove rfl (hF.ev 0 rfl)) rfl (fun _ _ => rfl) (kM [false, true] rfl rfl) (by decide) ?_
  refine pxV (v := (.pointer (some ⟨gd, 0, none⟩))) (fun _ _ hF => opMove rfl (hF.ev 1 rfl)) rfl (gOn 0 rfl rfl rfl (by decide)) (kA rfl) (by decide) ?_
  refine pxE 0 hH rfl (fun _ hF => Does.small (sectors_c gd D E hD ) (fun w => opCall rfl Try.func23 rfl rfl (Evs.cons (v := (.pointer (some ⟨gd, 0, none⟩))) (hF.ev 0 rfl) Evs.nil) w)) trivial rfl (gOn 1 rfl rfl rfl (by decide)) (kM [false, true, true] rfl rfl) (by decide) ?_
  clear hH
  rintro _ E1 w ⟨rfl, hD2⟩ hH
  replace hH : HH w0 (bks E) [E1] w := hH
  refine pxV (v := (.bool true)) (fun _ _ hF => opLss rfl (hF.ev 0 rfl) rfl (decide_eq_true (by omega))) rfl (gOn 1 rfl rfl rfl (by decide)) (kM [false, true, true] rfl rfl) (by decide) ?_
  refine pxV (v := (.bool true)) (fun _ _ hF => opPickF rfl (hF.ev 1 rfl) (hF.ev 0 rfl)) rfl (fun _ _ => rfl) (kM [false, false, true] rfl rfl) (by decide) ?_
  refine pxEnd ?_
  refine qxThen ?_
  refine cxT 0 rfl rfl ?_
  refine cxSeq ?_
  refine cxReg ?_
  refine pxV (v := (.pointer none)) (fun _ _ hF => opAssign rfl rfl) rfl (fun _ _ => rfl) (kM [false, false] rfl rfl) (by decide) ?_
  refine pxV (v := (.int .i64 1)) (fun _ _ hF => opAssign rfl rfl) rfl (fun _ _ => rfl) (kA rfl) (by decide) ?_
  refine pxEnd ?_
  refine qxThen ?_
  refine cxRet ?_
  refine qxThenR ?_
  refine qxRet2 1 0 rfl rfl rfl ?_
  exact ⟨_, _, rfl, ⟨rfl, hD2⟩, hH.out1 [true] rfl⟩

set_option maxHeartbeats 8000000 in
theorem open_nil  : Pure Try.prog 10 #[(.pointer none)] (fun _ => True) (.tuple #[.pointer none, .int .i64 1]) := by
  refine pure_of (fn := Try.f10) Try.func10 rfl Try.ntmps10 (Nat.le_of_ble_eq_true rfl) rfl ?_
  intro w0 hH hR
  refine cxSeq ?_
  refine cxReg ?_
  refine pxV (v := (.pointer none)) (fun _ _ hF => opAssign rfl rfl) rfl (fun _ _ => rfl) (kA rfl) (by decide) ?_
  refine pxV (v := (.int .i64 0)) (fun _ _ hF => opAssign rfl rfl) rfl (fun _ _ => rfl) (kM [false, true] rfl rfl) (by decide) ?_
  refine pxEnd ?_
  refine qxThen ?_
  refine cxSeq ?_
  refine cxSeq ?_
  refine cxReg ?_
  refine pxV (v := (.pointer none)) (fun _ _ hF => opMove rfl (hF.ev 1 rfl)) rfl (fun _ _ => rfl) (kM [false, true] rfl rfl) (by decide) ?_
  refine pxV (v := (.bool true)) (fun _ _ hF => opEqNil (e := 55) rfl (by kernel_rfl) (hF.ev 0 rfl) rfl rfl) rfl (fun _ _ => rfl) (kM [false, true] rfl rfl) (by decide) ?_
  refine pxV (v := (.bool true)) (fun _ _ hF => opMove rfl (hF.ev 0 rfl)) rfl (fun _ _ => rfl) (kM [false, true] rfl rfl) (by decide) ?_
  refine pxU rfl (gOff 0 rfl rfl rfl (by decide)) (kA rfl) (by decide) ?_
  refine pxU rfl (gOff 0 rfl rfl rfl (by decide)) (kA rfl) (by decide) ?_
  refine pxU rfl (gOff 0 rfl rfl rfl (by decide)) (kA rfl) (by decide) ?_
  refine pxV (v := (.bool true)) (fun _ _ hF => opPickT rfl (hF.ev 0 rfl) rfl) rfl (fun _ _ => rfl) (kM [false, true] rfl rfl) (by decide) ?_
  refine pxEnd ?_
  refine qxThen ?_
  refine cxT 0 rfl rfl ?_
  refine cxSeq ?_
  refine cxReg ?_
  refine pxV (v := (.pointer none)) (fun _ _ hF => opAssign rfl rfl) rfl (fun _ _ => rfl) (kM [false, false] rfl rfl) (by decide) ?_
  refine pxV (v := (.int .i64 1)) (fun _ _ hF => opAssign rfl rfl) rfl (fun _ _ => rfl) (kA rfl) (by decide) ?_
  refine pxEnd ?_
  refine qxThen ?_
  refine cxRet ?_
  refine qxThenR ?_
  refine qxRet2 1 0 rfl rfl rfl ?_
  exact ⟨rfl, HH.toBelow hH⟩
end Go.Proofs.Ytglplhbhpaegeaa
