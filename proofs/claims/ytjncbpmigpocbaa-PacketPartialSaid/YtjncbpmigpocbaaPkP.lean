/- The program's packets, and Parse (mkps.py writes this text). -/
import Derived.Test.YtjncbpmigpocbaaPkS
namespace Go.Proofs.Ytjncbpmigpocbaa
open Go Go.RowKit
set_option maxRecDepth 100000

/-- A packet that was read. -/
def PackAt (g : Nat) (A : Option Addr) (c : Nat) (b : List UInt8) (r : Nat × Pd × List UInt8) (v : Value) (E' : Hl) : Prop :=
  ∃ t A2 n2 c2 E1 E2, v = .tuple #[.agg #[.int .i64 t, .slice A2 n2 c2], .int .i64 (r.1 : Int)] ∧ E' = ([E1, E2] : List Hl).flatten ∧ (r.1 = 0 → t = r.2.1.1 ∧ n2 = r.2.1.2.length ∧ OwnT cByte 5 (.slice A2 n2 c2) r.2.1.2 E2) ∧ ∃ A' c' b', E1 = [bl g 43 #[.slice A' b'.length c']] ∧ Sfx A c b A' c' b' ∧ (r.1 = 0 → b' = r.2.2)
theorem bdy_new {x : Nat} {b : List UInt8} (h : ¬ x < 192) : bdy x b = frs (mayT (tagB x)) [] b := by unfold bdy; rw [if_pos (by omega)]
theorem bdy_old {x : Nat} {b : List UInt8} (h : x < 192) : bdy x b = leg (x % 4) b := by unfold bdy; rw [if_neg (by omega)]
theorem one_no {b : List UInt8} (h : tagB (b.getD 0 0).toNat = 0) : one b = (2, (0, []), []) := by unfold one; rw [if_pos h]
theorem one_yes {b : List UInt8} (h : tagB (b.getD 0 0).toNat ≠ 0) : one b = ((bdy (b.getD 0 0).toNat (b.drop 1)).1, ((tagB (b.getD 0 0).toNat : Int), (bdy (b.getD 0 0).toNat (b.drop 1)).2.1), (bdy (b.getD 0 0).toNat (b.drop 1)).2.2) := by unfold one; rw [if_neg h]

set_option maxHeartbeats 8000000 in
theorem body_c (g c : Nat) (A : Option Addr) (b : List UInt8) (hA : Off A b.length [g]) (hbig : b.length ≤ 4398046511104) (x t : Nat) (hx : x < 256) (ht : t = tagB x) : Does Try.prog 24 #[(.pointer (some ⟨g, 0, none⟩)), (.int .u64 (((x) : Nat) : Int)), (.int .i64 (((t) : Nat) : Int))] [bl g 43 #[.slice A b.length c]] (fun w => Vu cByte w A b.length c b) (fun v E' => BodyAt g A c b (bdy x b) v E') := by
  refine does_of (fn := Try.f24) Try.func24 rfl Try.ntmps24 (Nat.le_of_ble_eq_true rfl) rfl ?_
  intro w0 hH hR
  have hcap := hR.cap
  refine cxSeq ?_
  refine cxReg ?_
  refine pxV (v := (.slice none 0 0)) (fun _ _ hF => opAssign rfl rfl) rfl (fun _ _ => rfl) (kA rfl) (by decide) ?_
  refine pxV (v := (.int .i64 0)) (fun _ _ hF => opAssign rfl rfl) rfl (fun _ _ => rfl) (kM [false, true, true, true] rfl rfl) (by decide) ?_
  refine pxEnd ?_
  refine qxThen ?_
  refine cxSeq ?_
  refine cxSeq ?_
  refine cxReg ?_
  refine pxV (v := (.int .u64 (((x) : Nat) : Int))) (fun _ _ hF => opMove rfl (hF.ev 2 rfl)) rfl (fun _ _ => rfl) (kM [false, true, true, true] rfl rfl) (by decide) ?_
  refine pxV (v := (.bool (decide (x < 192)))) (fun _ _ hF => opLss rfl (hF.ev 0 rfl) rfl (dc (by omega))) rfl (fun _ _ => rfl) (kM [false, true, true, true] rfl rfl) (by decide) ?_
  refine pxEnd ?_
  refine qxThen ?_
  refine cxP 0 rfl rfl (fun hc1 => ?_) (fun hc1 => ?_)
  · refine cxSeq ?_
    refine cxReg ?_
    refine pxV (v := (.pointer (some ⟨g, 0, none⟩))) (fun _ _ hF => opMove rfl (hF.ev 1 rfl)) rfl (fun _ _ => rfl) (kM [false, false, true, false] rfl rfl) (by decide) ?_
    refine pxV (v := (.int .u64 (((x) : Nat) : Int))) (fun _ _ hF => opMove rfl (hF.ev 1 rfl)) rfl (fun _ _ => rfl) (kM [true, false] rfl rfl) (by decide) ?_
    refine pxV (v := (.int .u64 (((x % 4) : Nat) : Int))) (fun _ _ hF => opAndU (m := x) (j := 3) (z := (x % 4)) rfl rfl (hF.ev 0 rfl) rfl (by show _ < 18446744073709551616; omega) (by decide) (and_mask x 2)) rfl (fun _ _ => rfl) (kM [false, true] rfl rfl) (by decide) ?_
    refine pxE 0 hH rfl (fun _ hF => Does.small (leg_c g c A b hA hbig (x % 4) (by omega)) (fun w => opCall rfl Try.func28 rfl rfl (Evs.cons (v := (.pointer (some ⟨g, 0, none⟩))) (hF.ev 1 rfl) (Evs.cons (v := (.int .u64 (((x % 4) : Nat) : Int))) (hF.ev 0 rfl) Evs.nil)) w)) (hH.vu hR (by decide) hA) rfl (fun _ _ => rfl) (kM [false, false] rfl rfl) (by decide) ?_
    clear hH
    rintro _ _ w ⟨s2, _, E3, rfl, rfl, hO4, A5, c6, b7, rfl, hS8, hb9⟩ hH
    replace hH : HH w0 (bks ([bl g 43 #[.slice A b.length c]])) [([[bl g 43 #[.slice A5 b7.length c6]], E3] : List Hl).flatten] w := hH
    obtain ⟨A10, c11, rfl⟩ := hO4.slice
    replace hH : HH w0 (bks ([bl g 43 #[.slice A b.length c]])) [[bl g 43 #[(.slice A5 b7.length c6)]], E3] w := hH.cast (by simp)
    obtain ⟨hV12, hQ13⟩ := hS8 w0 hR
    replace hV12 : Vu cByte w0 A5 b7.length c6 b7 := hV12
    replace hQ13 := hQ13 _ hA
    refine pxV (v := (.slice A10 ((leg (x % 4) b).2.1.length) c11)) (fun _ _ hF => opExtract rfl (hF.ev 0 rfl) rfl) rfl (fun _ _ => rfl) (kA rfl) (by decide) ?_
    refine pxV (v := (.int .i64 ((((leg (x % 4) b).1) : Nat) : Int))) (fun _ _ hF => opExtract rfl (hF.ev 1 rfl) rfl) rfl (fun _ _ => rfl) (kM [true, false] rfl rfl) (by decide) ?_
    refine pxV (v := (.slice A10 ((leg (x % 4) b).2.1.length) c11)) (fun _ _ hF => opAssign rfl (hF.ev 1 rfl)) rfl (fun _ _ => rfl) (kM [true, false] rfl rfl) (by decide) ?_
    refine pxV (v := (.int .i64 ((((leg (x % 4) b).1) : Nat) : Int))) (fun _ _ hF => opAssign rfl (hF.ev 1 rfl)) rfl (fun _ _ => rfl) (kM [true, false] rfl rfl) (by decide) ?_
    refine pxEnd ?_
    refine qxThen ?_
    refine cxRet ?_
    refine qxThenR ?_
    refine qxRet2 1 0 rfl rfl rfl ?_
    have he := bdy_old hc1 (b := b)
    exact ⟨_, _, rfl, ⟨(.slice A10 ((leg (x % 4) b).2.1.length) c11), _, _, (by rw [he]), rfl, (by rw [he]; exact hO4), _, _, _, rfl, hS8, (by rw [he]; exact hb9)⟩, hH.out [true, true]⟩
  · refine cxSkip ?_
    refine qxThen ?_
    refine cxSeq ?_
    refine cxReg ?_
    refine pxV (v := (.pointer (some ⟨g, 0, none⟩))) (fun _ _ hF => opMove rfl (hF.ev 1 rfl)) rfl (fun _ _ => rfl) (kM [false, false, false, true] rfl rfl) (by decide) ?_
    refine pxV (v := (.int .i64 (((t) : Nat) : Int))) (fun _ _ hF => opMove rfl (hF.ev 1 rfl)) rfl (fun _ _ => rfl) (kM [true, false] rfl rfl) (by decide) ?_
    refine pxM hH (fun _ hF => Does.small ((may_c t).does) (fun w => opCall rfl Try.func30 rfl rfl (Evs.cons (v := (.int .i64 (((t) : Nat) : Int))) (hF.ev 0 rfl) Evs.nil) w)) trivial rfl (fun _ _ => rfl) (kM [false, true] rfl rfl) (by decide) ?_
    clear hH
    rintro _ _ w ⟨rfl, rfl⟩ hH
    replace hH : HH w0 (bks ([bl g 43 #[.slice A b.length c]])) [[bl g 43 #[(.slice A b.length c)]]] w := hH.unpad
    refine pxE 0 hH rfl (fun _ hF => Does.small (mod_c g c A b hA (mayT t)) (fun w => opCall rfl Try.func29 rfl rfl (Evs.cons (v := (.pointer (some ⟨g, 0, none⟩))) (hF.ev 1 rfl) (Evs.cons (v := (.bool (mayT t))) (hF.ev 0 rfl) Evs.nil)) w)) (hH.vu hR (by decide) hA) rfl (fun _ _ => rfl) (kM [false, false] rfl rfl) (by decide) ?_
    clear hH
    rintro _ _ w ⟨s14, _, E15, rfl, rfl, hO16, A17, c18, b19, rfl, hS20, hb21⟩ hH
    replace hH : HH w0 (bks ([bl g 43 #[.slice A b.length c]])) [([[bl g 43 #[.slice A17 b19.length c18]], E15] : List Hl).flatten] w := hH
    obtain ⟨A22, c23, rfl⟩ := hO16.slice
    replace hH : HH w0 (bks ([bl g 43 #[.slice A b.length c]])) [[bl g 43 #[(.slice A17 b19.length c18)]], E15] w := hH.cast (by simp)
    obtain ⟨hV24, hQ25⟩ := hS20 w0 hR
    replace hV24 : Vu cByte w0 A17 b19.length c18 b19 := hV24
    replace hQ25 := hQ25 _ hA
    refine pxV (v := (.slice A22 ((frs (mayT t) [] b).2.1.length) c23)) (fun _ _ hF => opExtract rfl (hF.ev 0 rfl) rfl) rfl (fun _ _ => rfl) (kA rfl) (by decide) ?_
    refine pxV (v := (.int .i64 ((((frs (mayT t) [] b).1) : Nat) : Int))) (fun _ _ hF => opExtract rfl (hF.ev 1 rfl) rfl) rfl (fun _ _ => rfl) (kM [true, false] rfl rfl) (by decide) ?_
    refine pxV (v := (.slice A22 ((frs (mayT t) [] b).2.1.length) c23)) (fun _ _ hF => opAssign rfl (hF.ev 1 rfl)) rfl (fun _ _ => rfl) (kM [true, false] rfl rfl) (by decide) ?_
    refine pxV (v := (.int .i64 ((((frs (mayT t) [] b).1) : Nat) : Int))) (fun _ _ hF => opAssign rfl (hF.ev 1 rfl)) rfl (fun _ _ => rfl) (kM [true, false] rfl rfl) (by decide) ?_
    refine pxEnd ?_
    refine qxThen ?_
    refine cxRet ?_
    refine qxRet2 1 0 rfl rfl rfl ?_
    have he : bdy x b = frs (mayT t) [] b := by rw [ht]; exact bdy_new hc1
    exact ⟨_, _, rfl, ⟨(.slice A22 ((frs (mayT t) [] b).2.1.length) c23), _, _, (by rw [he]), rfl, (by rw [he]; exact hO16), _, _, _, rfl, hS20, (by rw [he]; exact hb21)⟩, hH.out [true, true]⟩

set_option maxHeartbeats 8000000 in
theorem packet_c (g c : Nat) (A : Option Addr) (b : List UInt8) (hA : Off A b.length [g]) (hbig : b.length ≤ 4398046511104) (hb0 : 1 ≤ b.length) : Does Try.prog 20 #[(.pointer (some ⟨g, 0, none⟩))] [bl g 43 #[.slice A b.length c]] (fun w => Vu cByte w A b.length c b) (fun v E' => PackAt g A c b (one b) v E') := by
  refine does_of (fn := Try.f20) Try.func20 rfl Try.ntmps20 (Nat.le_of_ble_eq_true rfl) rfl ?_
  intro w0 hH hR
  have hcap := hR.cap
  refine cxSeq ?_
  refine cxReg ?_
  refine pxM hH (fun _ hF => smAlloc (z := (.agg #[(.int .i64 0), (.slice none 0 0)])) rfl (by kernel_rfl) rfl) trivial rfl (fun _ _ => rfl) (kA rfl) (by decide) ?_
  clear hH
  rintro _ _ w ⟨g1, rfl, rfl⟩ hH
  replace hH : HH w0 (bks ([bl g 43 #[.slice A b.length c]])) [[bl g 43 #[(.slice A b.length c)]], [bl g1 31 #[(.int .i64 0), (.slice none 0 0)]]] w := hH
  refine pxV (v := (.int .i64 0)) (fun _ _ hF => opAssign rfl rfl) rfl (fun _ _ => rfl) (kA rfl) (by decide) ?_
  refine pxEnd ?_
  refine qxThen ?_
  refine cxSeq ?_
  have hc0 := getD_toNat_lt b 0
  refine cxReg ?_
  refine pxV (v := (.pointer (some ⟨g, 0, none⟩))) (fun _ _ hF => opMove rfl (hF.ev 2 rfl)) rfl (fun _ _ => rfl) (kM [false, true, true] rfl rfl) (by decide) ?_
  refine pxE 0 hH rfl (fun _ hF => Does.small (number_ok g c A b hA 1 hb0 (leb rfl) ((b.getD 0 0).toNat) (beN_take1 hb0)) (fun w => opCall rfl Try.func23 rfl rfl (Evs.cons (v := (.pointer (some ⟨g, 0, none⟩))) (hF.ev 0 rfl) (Evs.cons (v := (.int .i64 1)) rfl Evs.nil)) w)) (hH.vu hR (by decide) hA) rfl (fun _ _ => rfl) (kM [false, true, true] rfl rfl) (by decide) ?_
  clear hH
  rintro _ _ w ⟨rfl, A2, c3, rfl, hS4⟩ hH
  obtain ⟨hV5, hQ6⟩ := hS4 w0 hR
  replace hV5 : Vu cByte w0 A2 (b.drop 1).length c3 (b.drop 1) := hV5
  replace hQ6 := hQ6 _ hA
  replace hH : HH w0 (bks ([bl g 43 #[.slice A b.length c]])) [[bl g 43 #[(.slice A2 ((b.drop 1).length) c3)]], [bl g1 31 #[(.int .i64 0), (.slice none 0 0)]]] w := hH
  refine pxV (v := (.tuple #[(.int .u64 ((((b.getD 0 0).toNat) : Nat) : Int)), (.bool true)])) (fun _ _ hF => opMove rfl (hF.ev 0 rfl)) rfl (fun _ _ => rfl) (kM [false, true, true] rfl rfl) (by decide) ?_
  refine pxV (v := (.int .u64 ((((b.getD 0 0).toNat) : Nat) : Int))) (fun _ _ hF => opExtract rfl (hF.ev 0 rfl) rfl) rfl (fun _ _ => rfl) (kA rfl) (by decide) ?_
  refine pxV (v := (.bool true)) (fun _ _ hF => opExtract rfl (hF.ev 1 rfl) rfl) rfl (fun _ _ => rfl) (kM [true, false, true, true] rfl rfl) (by decide) ?_
  refine pxV (v := (.int .u64 ((((b.getD 0 0).toNat) : Nat) : Int))) (fun _ _ hF => opAssign rfl (hF.ev 1 rfl)) rfl (fun _ _ => rfl) (kM [true, false, true, true] rfl rfl) (by decide) ?_
  refine pxV (v := (.bool true)) (fun _ _ hF => opAssign rfl (hF.ev 1 rfl)) rfl (fun _ _ => rfl) (kM [true, false, true, true] rfl rfl) (by decide) ?_
  refine pxEnd ?_
  refine qxThen ?_
  refine cxSeq ?_
  refine cxSeq ?_
  refine cxReg ?_
  refine pxV (v := (.bool true)) (fun _ _ hF => opMove rfl (hF.ev 0 rfl)) rfl (fun _ _ => rfl) (kM [false, true, true, true] rfl rfl) (by decide) ?_
  refine pxV (v := (.bool false)) (fun _ _ hF => opNot rfl (hF.ev 0 rfl) rfl) rfl (fun _ _ => rfl) (kM [false, true, true, true] rfl rfl) (by decide) ?_
  refine pxV (v := (.bool false)) (fun _ _ hF => opMove rfl (hF.ev 0 rfl)) rfl (fun _ _ => rfl) (kM [false, true, true, true] rfl rfl) (by decide) ?_
  refine pxV (v := (.int .u64 ((((b.getD 0 0).toNat) : Nat) : Int))) (fun _ _ hF => opMove rfl (hF.ev 1 rfl)) rfl (gOn 0 rfl rfl rfl (by decide)) (kA rfl) (by decide) ?_
  refine pxV (v := (.bool (decide ((b.getD 0 0).toNat < 128)))) (fun _ _ hF => opLss rfl (hF.ev 0 rfl) rfl (dc (by omega))) rfl (gOn 1 rfl rfl rfl (by decide)) (kM [false, true, true, true, true] rfl rfl) (by decide) ?_
  refine pxV (v := (.bool (decide ((b.getD 0 0).toNat < 128)))) (fun _ _ hF => opPickF rfl (hF.ev 1 rfl) (hF.ev 0 rfl)) rfl (fun _ _ => rfl) (kM [false, false, true, true, true] rfl rfl) (by decide) ?_
  refine pxEnd ?_
  refine qxThen ?_
  refine cxP 0 rfl rfl (fun hc7 => ?_) (fun hc7 => ?_)
  · refine cxSeq ?_
    refine cxReg ?_
    refine pxV (v := (.agg #[(.int .i64 0), (.slice none 0 0)])) (fun _ _ hF => opBuildP (cells := #[(.int .i64 0), (.slice none 0 0)]) rfl EvP.nil rfl _) rfl (fun _ _ => rfl) (kM [false, false, true, false] rfl rfl) (by decide) ?_
    refine pxE0 1 hH rfl (fun _ hF => smStoreK (k := 2) rfl (hF.ev 1 rfl) (hF.ev 0 rfl) rfl (by kernel_rfl) (leb rfl) rfl rfl) trivial rfl (fun _ _ => rfl) ?_
    clear hH
    rintro _ _ w rfl hH
    replace hH : HH w0 (bks ([bl g 43 #[.slice A b.length c]])) [[bl g 43 #[(.slice A2 ((b.drop 1).length) c3)]], [bl g1 31 #[(.int .i64 0), (.slice none 0 0)]]] w := hH
    refine pxV (v := (.int .i64 2)) (fun _ _ hF => opAssign rfl rfl) rfl (fun _ _ => rfl) (kM [false, true] rfl rfl) (by decide) ?_
    refine pxEnd ?_
    refine qxThen ?_
    refine cxRet ?_
    refine qxThenR ?_
    refine qxRetCT 1 0 (hH.blk 1 rfl) rfl rfl rfl (by kernel_rfl) rfl (by kernel_rfl) ?_
    have he := one_no (b := b) (by unfold tagB; rw [if_neg (by omega), if_neg (by omega)])
    exact ⟨_, _, rfl, ⟨0, none, 0, 0, _, [], (by rw [he]; first | done | rfl), rfl, (by rw [he]; intro h; cases h), _, _, _, rfl, hS4, (by rw [he]; intro h; cases h)⟩, HH.out (HH.pad hH 1) [true, false, true]⟩
  · refine cxSkip ?_
    refine qxThen ?_
    refine cxSeq ?_
    refine cxReg ?_
    refine pxV (v := (.int .u64 ((((b.getD 0 0).toNat) : Nat) : Int))) (fun _ _ hF => opMove rfl (hF.ev 1 rfl)) rfl (fun _ _ => rfl) (kM [false, true, true, true] rfl rfl) (by decide) ?_
    refine pxV (v := (.int .u64 ((((b.getD 0 0).toNat % 64) : Nat) : Int))) (fun _ _ hF => opAndU (m := (b.getD 0 0).toNat) (j := 63) (z := ((b.getD 0 0).toNat % 64)) rfl rfl (hF.ev 0 rfl) rfl (by show _ < 18446744073709551616; omega) (by decide) (and_mask (b.getD 0 0).toNat 6)) rfl (fun _ _ => rfl) (kM [false, true, true, true] rfl rfl) (by decide) ?_
    refine pxV (v := (.int .i64 ((((b.getD 0 0).toNat % 64) : Nat) : Int))) (fun _ _ hF => opConvI (k' := .i64) rfl (by kernel_rfl) (by kernel_rfl) (hF.ev 0 rfl) (wI rfl (by omega) (by omega))) rfl (fun _ _ => rfl) (kM [false, true, true, true] rfl rfl) (by decide) ?_
    refine pxV (v := (.int .i64 ((((b.getD 0 0).toNat % 64) : Nat) : Int))) (fun _ _ hF => opAssign rfl (hF.ev 0 rfl)) rfl (fun _ _ => rfl) (kM [false, true, true, true] rfl rfl) (by decide) ?_
    refine pxEnd ?_
    refine qxThen ?_
    refine cxSeq ?_
    refine cxSeq ?_
    refine cxReg ?_
    refine pxV (v := (.int .u64 ((((b.getD 0 0).toNat) : Nat) : Int))) (fun _ _ hF => opMove rfl (hF.ev 1 rfl)) rfl (fun _ _ => rfl) (kA rfl) (by decide) ?_
    refine pxV (v := (.bool (decide ((b.getD 0 0).toNat < 192)))) (fun _ _ hF => opLss rfl (hF.ev 0 rfl) rfl (dc (by omega))) rfl (fun _ _ => rfl) (kM [false, true, true, true, true] rfl rfl) (by decide) ?_
    refine pxEnd ?_
    refine qxThen ?_
    refine cxP 0 rfl rfl (fun hc8 => ?_) (fun hc8 => ?_)
    · refine cxReg ?_
      refine pxV (v := (.int .i64 ((((b.getD 0 0).toNat % 64) : Nat) : Int))) (fun _ _ hF => opMove rfl (hF.ev 1 rfl)) rfl (fun _ _ => rfl) (kM [false, false, true, true, true] rfl rfl) (by decide) ?_
      refine pxV (v := (.int .i64 (((tagB (b.getD 0 0).toNat) : Nat) : Int))) (fun _ _ hF => opShrU (n := 2) (z := (tagB (b.getD 0 0).toNat)) rfl (hF.ev 0 rfl) rfl (leb rfl) (by unfold tagB; rw [if_neg (by omega), if_pos (by omega)]; omega)) rfl (fun _ _ => rfl) (kM [false, true, true, true] rfl rfl) (by decide) ?_
      refine pxV (v := (.int .i64 (((tagB (b.getD 0 0).toNat) : Nat) : Int))) (fun _ _ hF => opAssign rfl (hF.ev 0 rfl)) rfl (fun _ _ => rfl) (kM [false, true, true, true] rfl rfl) (by decide) ?_
      refine pxEnd ?_
      refine qxThen ?_
      refine cxSeq ?_
      refine cxSeq ?_
      refine cxReg ?_
      refine pxV (v := (.int .i64 (((tagB (b.getD 0 0).toNat) : Nat) : Int))) (fun _ _ hF => opMove rfl (hF.ev 0 rfl)) rfl (fun _ _ => rfl) (kA rfl) (by decide) ?_
      refine pxV (v := (.bool (decide (tagB (b.getD 0 0).toNat = 0)))) (fun _ _ hF => opEqI rfl (hF.ev 0 rfl) rfl (dc (by omega))) rfl (fun _ _ => rfl) (kM [false, true, true, true, true] rfl rfl) (by decide) ?_
      refine pxEnd ?_
      refine qxThen ?_
      refine cxP 0 rfl rfl (fun hc9 => ?_) (fun hc9 => ?_)
      · refine cxSeq ?_
        refine cxReg ?_
        refine pxV (v := (.agg #[(.int .i64 0), (.slice none 0 0)])) (fun _ _ hF => opBuildP (cells := #[(.int .i64 0), (.slice none 0 0)]) rfl EvP.nil rfl _) rfl (fun _ _ => rfl) (kM [false, false, false, true, false] rfl rfl) (by decide) ?_
        refine pxE0 1 hH rfl (fun _ hF => smStoreK (k := 2) rfl (hF.ev 1 rfl) (hF.ev 0 rfl) rfl (by kernel_rfl) (leb rfl) rfl rfl) trivial rfl (fun _ _ => rfl) ?_
        clear hH
        rintro _ _ w rfl hH
        replace hH : HH w0 (bks ([bl g 43 #[.slice A b.length c]])) [[bl g 43 #[(.slice A2 ((b.drop 1).length) c3)]], [bl g1 31 #[(.int .i64 0), (.slice none 0 0)]]] w := hH
        refine pxV (v := (.int .i64 2)) (fun _ _ hF => opAssign rfl rfl) rfl (fun _ _ => rfl) (kM [false, true] rfl rfl) (by decide) ?_
        refine pxEnd ?_
        refine qxThen ?_
        refine cxRet ?_
        refine qxThenR ?_
        refine qxRetCT 1 0 (hH.blk 1 rfl) rfl rfl rfl (by kernel_rfl) rfl (by kernel_rfl) ?_
        have he := one_no (b := b) (by omega)
        exact ⟨_, _, rfl, ⟨0, none, 0, 0, _, [], (by rw [he]; first | done | rfl), rfl, (by rw [he]; intro h; cases h), _, _, _, rfl, hS4, (by rw [he]; intro h; cases h)⟩, HH.out (HH.pad hH 1) [true, false, true]⟩
      · refine cxSkip ?_
        refine qxThen ?_
        refine cxSeq ?_
        refine cxReg ?_
        refine pxV (v := (.pointer (some ⟨g, 0, none⟩))) (fun _ _ hF => opMove rfl (hF.ev 4 rfl)) rfl (fun _ _ => rfl) (kM [false, true, true, true, false] rfl rfl) (by decide) ?_
        refine pxV (v := (.int .u64 ((((b.getD 0 0).toNat) : Nat) : Int))) (fun _ _ hF => opMove rfl (hF.ev 2 rfl)) rfl (fun _ _ => rfl) (kM [true, true, false, true] rfl rfl) (by decide) ?_
        refine pxV (v := (.int .i64 (((tagB (b.getD 0 0).toNat) : Nat) : Int))) (fun _ _ hF => opMove rfl (hF.ev 2 rfl)) rfl (fun _ _ => rfl) (kA rfl) (by decide) ?_
        refine pxE 0 hH rfl (fun _ hF => Does.small (body_c g c3 A2 (b.drop 1) hQ6 (by rw [List.length_drop]; omega) ((b.getD 0 0).toNat) (tagB (b.getD 0 0).toNat) hc0 rfl) (fun w => opCall rfl Try.func24 rfl rfl (Evs.cons (v := (.pointer (some ⟨g, 0, none⟩))) (hF.ev 2 rfl) (Evs.cons (v := (.int .u64 ((((b.getD 0 0).toNat) : Nat) : Int))) (hF.ev 1 rfl) (Evs.cons (v := (.int .i64 (((tagB (b.getD 0 0).toNat) : Nat) : Int))) (hF.ev 0 rfl) Evs.nil))) w)) (hH.vu hV5 (by decide) hQ6) rfl (fun _ _ => rfl) (kM [false, false, false, true, true] rfl rfl) (by decide) ?_
        clear hH
        rintro _ _ w ⟨s10, _, E11, rfl, rfl, hO12, A13, c14, b15, rfl, hS16, hb17⟩ hH
        replace hH : HH w0 (bks ([bl g 43 #[.slice A b.length c]])) [([[bl g 43 #[.slice A13 b15.length c14]], E11] : List Hl).flatten, [bl g1 31 #[(.int .i64 0), (.slice none 0 0)]]] w := hH
        obtain ⟨A18, c19, rfl⟩ := hO12.slice
        replace hH : HH w0 (bks ([bl g 43 #[.slice A b.length c]])) [[bl g 43 #[(.slice A13 b15.length c14)]], E11, [bl g1 31 #[(.int .i64 0), (.slice none 0 0)]]] w := hH.cast (by simp)
        obtain ⟨hV20, hQ21⟩ := hS16 w0 hV5
        replace hV20 : Vu cByte w0 A13 b15.length c14 b15 := hV20
        replace hQ21 := hQ21 _ hQ6
        refine pxV (v := (.tuple #[(.slice A18 ((bdy ((b.getD 0 0).toNat) (b.drop 1)).2.1.length) c19), (.int .i64 ((((bdy ((b.getD 0 0).toNat) (b.drop 1)).1) : Nat) : Int))])) (fun _ _ hF => opMove rfl (hF.ev 0 rfl)) rfl (fun _ _ => rfl) (kM [false, true, true] rfl rfl) (by decide) ?_
        refine pxV (v := (.slice A18 ((bdy ((b.getD 0 0).toNat) (b.drop 1)).2.1.length) c19)) (fun _ _ hF => opExtract rfl (hF.ev 0 rfl) rfl) rfl (fun _ _ => rfl) (kA rfl) (by decide) ?_
        refine pxV (v := (.int .i64 ((((bdy ((b.getD 0 0).toNat) (b.drop 1)).1) : Nat) : Int))) (fun _ _ hF => opExtract rfl (hF.ev 1 rfl) rfl) rfl (fun _ _ => rfl) (kM [true, false, true, true] rfl rfl) (by decide) ?_
        refine pxV (v := (.slice A18 ((bdy ((b.getD 0 0).toNat) (b.drop 1)).2.1.length) c19)) (fun _ _ hF => opAssign rfl (hF.ev 1 rfl)) rfl (fun _ _ => rfl) (kM [true, false, true, true] rfl rfl) (by decide) ?_
        refine pxV (v := (.int .i64 ((((bdy ((b.getD 0 0).toNat) (b.drop 1)).1) : Nat) : Int))) (fun _ _ hF => opAssign rfl (hF.ev 1 rfl)) rfl (fun _ _ => rfl) (kM [true, false, true, true] rfl rfl) (by decide) ?_
        refine pxEnd ?_
        refine qxThen ?_
        refine cxSeq ?_
        refine cxSeq ?_
        refine cxReg ?_
        refine pxV (v := (.int .i64 ((((bdy ((b.getD 0 0).toNat) (b.drop 1)).1) : Nat) : Int))) (fun _ _ hF => opMove rfl (hF.ev 0 rfl)) rfl (fun _ _ => rfl) (kA rfl) (by decide) ?_
        refine pxV (v := (.bool (decide ((bdy ((b.getD 0 0).toNat) (b.drop 1)).1 ≠ 0)))) (fun _ _ hF => opNeI rfl (hF.ev 0 rfl) rfl (dc (by omega))) rfl (fun _ _ => rfl) (kM [false, true, true, true, true] rfl rfl) (by decide) ?_
        refine pxEnd ?_
        refine qxThen ?_
        refine cxP 0 rfl rfl (fun hc22 => ?_) (fun hc22 => ?_)
        · refine cxSeq ?_
          refine cxReg ?_
          refine pxV (v := (.agg #[(.int .i64 0), (.slice none 0 0)])) (fun _ _ hF => opBuildP (cells := #[(.int .i64 0), (.slice none 0 0)]) rfl EvP.nil rfl _) rfl (fun _ _ => rfl) (kM [false, true, false, false, true] rfl rfl) (by decide) ?_
          refine pxV (v := (.int .i64 ((((bdy ((b.getD 0 0).toNat) (b.drop 1)).1) : Nat) : Int))) (fun _ _ hF => opMove rfl (hF.ev 1 rfl)) rfl (fun _ _ => rfl) (kM [true, false, true] rfl rfl) (by decide) ?_
          refine pxE0 2 hH rfl (fun _ hF => smStoreK (k := 2) rfl (hF.ev 2 rfl) (hF.ev 1 rfl) rfl (by kernel_rfl) (leb rfl) rfl rfl) trivial rfl (fun _ _ => rfl) ?_
          clear hH
          rintro _ _ w rfl hH
          replace hH : HH w0 (bks ([bl g 43 #[.slice A b.length c]])) [[bl g 43 #[(.slice A13 b15.length c14)]], E11, [bl g1 31 #[(.int .i64 0), (.slice none 0 0)]]] w := hH
          refine pxV (v := (.int .i64 ((((bdy ((b.getD 0 0).toNat) (b.drop 1)).1) : Nat) : Int))) (fun _ _ hF => opAssign rfl (hF.ev 0 rfl)) rfl (fun _ _ => rfl) (kM [false, false, true] rfl rfl) (by decide) ?_
          refine pxEnd ?_
          refine qxThen ?_
          refine cxRet ?_
          refine qxThenR ?_
          refine qxRetCT 1 0 (hH.blk 2 rfl) rfl rfl rfl (by kernel_rfl) rfl (by kernel_rfl) ?_
          have he := one_yes (b := b) (by omega)
          exact ⟨_, _, rfl, ⟨0, none, 0, 0, _, [], (by rw [he]), rfl, (by rw [he]; intro h; exact absurd h hc22), _, _, _, rfl, (hS4.trans hS16), (by rw [he]; intro h; exact absurd h hc22)⟩, HH.out (HH.pad hH 1) [true, false, false, true]⟩
        · refine cxSkip ?_
          refine qxThen ?_
          refine cxSeq ?_
          refine cxReg ?_
          refine pxV (v := (.int .i64 (((tagB (b.getD 0 0).toNat) : Nat) : Int))) (fun _ _ hF => opMove rfl (hF.ev 3 rfl)) rfl (fun _ _ => rfl) (kM [false, false, true, false, true] rfl rfl) (by decide) ?_
          refine pxV (v := (.slice A18 ((bdy ((b.getD 0 0).toNat) (b.drop 1)).2.1.length) c19)) (fun _ _ hF => opMove rfl (hF.ev 1 rfl)) rfl (fun _ _ => rfl) (kM [true, false, true] rfl rfl) (by decide) ?_
          refine pxV (v := (.agg #[(.int .i64 (((tagB (b.getD 0 0).toNat) : Nat) : Int)), (.slice A18 ((bdy ((b.getD 0 0).toNat) (b.drop 1)).2.1.length) c19)])) (fun _ _ hF => opBuildP (cells := #[(.int .i64 (((tagB (b.getD 0 0).toNat) : Nat) : Int)), (.slice A18 ((bdy ((b.getD 0 0).toNat) (b.drop 1)).2.1.length) c19)]) rfl (EvP.cons (v := (.int .i64 (((tagB (b.getD 0 0).toNat) : Nat) : Int))) (hF.ev 1 rfl) (EvP.cons (v := (.slice A18 ((bdy ((b.getD 0 0).toNat) (b.drop 1)).2.1.length) c19)) (hF.ev 0 rfl) EvP.nil)) rfl _) rfl (fun _ _ => rfl) (kM [false, false, true] rfl rfl) (by decide) ?_
          refine pxE0 2 hH rfl (fun _ hF => smStoreK (k := 2) rfl (hF.ev 1 rfl) (hF.ev 0 rfl) rfl (by kernel_rfl) (leb rfl) rfl rfl) trivial rfl (fun _ _ => rfl) ?_
          clear hH
          rintro _ _ w rfl hH
          replace hH : HH w0 (bks ([bl g 43 #[.slice A b.length c]])) [[bl g 43 #[(.slice A13 b15.length c14)]], E11, [bl g1 31 #[(.int .i64 (((tagB (b.getD 0 0).toNat) : Nat) : Int)), (.slice A18 ((bdy ((b.getD 0 0).toNat) (b.drop 1)).2.1.length) c19)]]] w := hH
          refine pxV (v := (.int .i64 0)) (fun _ _ hF => opAssign rfl rfl) rfl (fun _ _ => rfl) (kM [false, true] rfl rfl) (by decide) ?_
          refine pxEnd ?_
          refine qxThen ?_
          refine cxRet ?_
          refine qxRetCT 1 0 (hH.blk 2 rfl) rfl rfl rfl (by kernel_rfl) rfl (by kernel_rfl) ?_
          have he := one_yes (b := b) (by omega)
          have hz : (bdy (b.getD 0 0).toNat (b.drop 1)).1 = 0 := Decidable.of_not_not hc22
          exact ⟨_, _, rfl, ⟨(((tagB (b.getD 0 0).toNat) : Nat) : Int), A18, _, c19, _, _, (by rw [he]; show _ = Value.tuple #[_, .int .i64 (((bdy (b.getD 0 0).toNat (b.drop 1)).1 : Nat) : Int)]; rw [hz]; rfl), rfl, (by rw [he]; intro _; exact ⟨congrArg Int.ofNat rfl, rfl, hO12⟩), _, _, _, rfl, (hS4.trans hS16), (by rw [he]; exact hb17)⟩, hH.out [true, true, false]⟩
    · have ht : (b.getD 0 0).toNat % 64 = tagB (b.getD 0 0).toNat := by unfold tagB; rw [if_pos (by omega)]
      refine cxSkip ?_
      refine qxThen ?_
      refine cxSeq ?_
      refine cxSeq ?_
      refine cxReg ?_
      refine pxV (v := (.int .i64 ((((b.getD 0 0).toNat % 64) : Nat) : Int))) (fun _ _ hF => opMove rfl (hF.ev 1 rfl)) rfl (fun _ _ => rfl) (kM [false, true, true, true, true] rfl rfl) (by decide) ?_
      refine pxV (v := (.bool (decide ((b.getD 0 0).toNat % 64 = 0)))) (fun _ _ hF => opEqI rfl (hF.ev 0 rfl) rfl (dc (by omega))) rfl (fun _ _ => rfl) (kM [false, true, true, true, true] rfl rfl) (by decide) ?_
      refine pxEnd ?_
      refine qxThen ?_
      refine cxP 0 rfl rfl (fun hc23 => ?_) (fun hc23 => ?_)
      · refine cxSeq ?_
        refine cxReg ?_
        refine pxV (v := (.agg #[(.int .i64 0), (.slice none 0 0)])) (fun _ _ hF => opBuildP (cells := #[(.int .i64 0), (.slice none 0 0)]) rfl EvP.nil rfl _) rfl (fun _ _ => rfl) (kM [false, false, false, true, false] rfl rfl) (by decide) ?_
        refine pxE0 1 hH rfl (fun _ hF => smStoreK (k := 2) rfl (hF.ev 1 rfl) (hF.ev 0 rfl) rfl (by kernel_rfl) (leb rfl) rfl rfl) trivial rfl (fun _ _ => rfl) ?_
        clear hH
        rintro _ _ w rfl hH
        replace hH : HH w0 (bks ([bl g 43 #[.slice A b.length c]])) [[bl g 43 #[(.slice A2 ((b.drop 1).length) c3)]], [bl g1 31 #[(.int .i64 0), (.slice none 0 0)]]] w := hH
        refine pxV (v := (.int .i64 2)) (fun _ _ hF => opAssign rfl rfl) rfl (fun _ _ => rfl) (kM [false, true] rfl rfl) (by decide) ?_
        refine pxEnd ?_
        refine qxThen ?_
        refine cxRet ?_
        refine qxThenR ?_
        refine qxRetCT 1 0 (hH.blk 1 rfl) rfl rfl rfl (by kernel_rfl) rfl (by kernel_rfl) ?_
        have he := one_no (b := b) (by omega)
        exact ⟨_, _, rfl, ⟨0, none, 0, 0, _, [], (by rw [he]; first | done | rfl), rfl, (by rw [he]; intro h; cases h), _, _, _, rfl, hS4, (by rw [he]; intro h; cases h)⟩, HH.out (HH.pad hH 1) [true, false, true]⟩
      · refine cxSkip ?_
        refine qxThen ?_
        refine cxSeq ?_
        refine cxReg ?_
        refine pxV (v := (.pointer (some ⟨g, 0, none⟩))) (fun _ _ hF => opMove rfl (hF.ev 4 rfl)) rfl (fun _ _ => rfl) (kM [false, true, true, true, false] rfl rfl) (by decide) ?_
        refine pxV (v := (.int .u64 ((((b.getD 0 0).toNat) : Nat) : Int))) (fun _ _ hF => opMove rfl (hF.ev 2 rfl)) rfl (fun _ _ => rfl) (kM [true, true, false, true] rfl rfl) (by decide) ?_
        refine pxV (v := (.int .i64 ((((b.getD 0 0).toNat % 64) : Nat) : Int))) (fun _ _ hF => opMove rfl (hF.ev 2 rfl)) rfl (fun _ _ => rfl) (kA rfl) (by decide) ?_
        refine pxE 0 hH rfl (fun _ hF => Does.small (body_c g c3 A2 (b.drop 1) hQ6 (by rw [List.length_drop]; omega) ((b.getD 0 0).toNat) ((b.getD 0 0).toNat % 64) hc0 ht) (fun w => opCall rfl Try.func24 rfl rfl (Evs.cons (v := (.pointer (some ⟨g, 0, none⟩))) (hF.ev 2 rfl) (Evs.cons (v := (.int .u64 ((((b.getD 0 0).toNat) : Nat) : Int))) (hF.ev 1 rfl) (Evs.cons (v := (.int .i64 ((((b.getD 0 0).toNat % 64) : Nat) : Int))) (hF.ev 0 rfl) Evs.nil))) w)) (hH.vu hV5 (by decide) hQ6) rfl (fun _ _ => rfl) (kM [false, false, false, true, true] rfl rfl) (by decide) ?_
        clear hH
        rintro _ _ w ⟨s24, _, E25, rfl, rfl, hO26, A27, c28, b29, rfl, hS30, hb31⟩ hH
        replace hH : HH w0 (bks ([bl g 43 #[.slice A b.length c]])) [([[bl g 43 #[.slice A27 b29.length c28]], E25] : List Hl).flatten, [bl g1 31 #[(.int .i64 0), (.slice none 0 0)]]] w := hH
        obtain ⟨A32, c33, rfl⟩ := hO26.slice
        replace hH : HH w0 (bks ([bl g 43 #[.slice A b.length c]])) [[bl g 43 #[(.slice A27 b29.length c28)]], E25, [bl g1 31 #[(.int .i64 0), (.slice none 0 0)]]] w := hH.cast (by simp)
        obtain ⟨hV34, hQ35⟩ := hS30 w0 hV5
        replace hV34 : Vu cByte w0 A27 b29.length c28 b29 := hV34
        replace hQ35 := hQ35 _ hQ6
        refine pxV (v := (.tuple #[(.slice A32 ((bdy ((b.getD 0 0).toNat) (b.drop 1)).2.1.length) c33), (.int .i64 ((((bdy ((b.getD 0 0).toNat) (b.drop 1)).1) : Nat) : Int))])) (fun _ _ hF => opMove rfl (hF.ev 0 rfl)) rfl (fun _ _ => rfl) (kM [false, true, true] rfl rfl) (by decide) ?_
        refine pxV (v := (.slice A32 ((bdy ((b.getD 0 0).toNat) (b.drop 1)).2.1.length) c33)) (fun _ _ hF => opExtract rfl (hF.ev 0 rfl) rfl) rfl (fun _ _ => rfl) (kA rfl) (by decide) ?_
        refine pxV (v := (.int .i64 ((((bdy ((b.getD 0 0).toNat) (b.drop 1)).1) : Nat) : Int))) (fun _ _ hF => opExtract rfl (hF.ev 1 rfl) rfl) rfl (fun _ _ => rfl) (kM [true, false, true, true] rfl rfl) (by decide) ?_
        refine pxV (v := (.slice A32 ((bdy ((b.getD 0 0).toNat) (b.drop 1)).2.1.length) c33)) (fun _ _ hF => opAssign rfl (hF.ev 1 rfl)) rfl (fun _ _ => rfl) (kM [true, false, true, true] rfl rfl) (by decide) ?_
        refine pxV (v := (.int .i64 ((((bdy ((b.getD 0 0).toNat) (b.drop 1)).1) : Nat) : Int))) (fun _ _ hF => opAssign rfl (hF.ev 1 rfl)) rfl (fun _ _ => rfl) (kM [true, false, true, true] rfl rfl) (by decide) ?_
        refine pxEnd ?_
        refine qxThen ?_
        refine cxSeq ?_
        refine cxSeq ?_
        refine cxReg ?_
        refine pxV (v := (.int .i64 ((((bdy ((b.getD 0 0).toNat) (b.drop 1)).1) : Nat) : Int))) (fun _ _ hF => opMove rfl (hF.ev 0 rfl)) rfl (fun _ _ => rfl) (kA rfl) (by decide) ?_
        refine pxV (v := (.bool (decide ((bdy ((b.getD 0 0).toNat) (b.drop 1)).1 ≠ 0)))) (fun _ _ hF => opNeI rfl (hF.ev 0 rfl) rfl (dc (by omega))) rfl (fun _ _ => rfl) (kM [false, true, true, true, true] rfl rfl) (by decide) ?_
        refine pxEnd ?_
        refine qxThen ?_
        refine cxP 0 rfl rfl (fun hc36 => ?_) (fun hc36 => ?_)
        · refine cxSeq ?_
          refine cxReg ?_
          refine pxV (v := (.agg #[(.int .i64 0), (.slice none 0 0)])) (fun _ _ hF => opBuildP (cells := #[(.int .i64 0), (.slice none 0 0)]) rfl EvP.nil rfl _) rfl (fun _ _ => rfl) (kM [false, true, false, false, true] rfl rfl) (by decide) ?_
          refine pxV (v := (.int .i64 ((((bdy ((b.getD 0 0).toNat) (b.drop 1)).1) : Nat) : Int))) (fun _ _ hF => opMove rfl (hF.ev 1 rfl)) rfl (fun _ _ => rfl) (kM [true, false, true] rfl rfl) (by decide) ?_
          refine pxE0 2 hH rfl (fun _ hF => smStoreK (k := 2) rfl (hF.ev 2 rfl) (hF.ev 1 rfl) rfl (by kernel_rfl) (leb rfl) rfl rfl) trivial rfl (fun _ _ => rfl) ?_
          clear hH
          rintro _ _ w rfl hH
          replace hH : HH w0 (bks ([bl g 43 #[.slice A b.length c]])) [[bl g 43 #[(.slice A27 b29.length c28)]], E25, [bl g1 31 #[(.int .i64 0), (.slice none 0 0)]]] w := hH
          refine pxV (v := (.int .i64 ((((bdy ((b.getD 0 0).toNat) (b.drop 1)).1) : Nat) : Int))) (fun _ _ hF => opAssign rfl (hF.ev 0 rfl)) rfl (fun _ _ => rfl) (kM [false, false, true] rfl rfl) (by decide) ?_
          refine pxEnd ?_
          refine qxThen ?_
          refine cxRet ?_
          refine qxThenR ?_
          refine qxRetCT 1 0 (hH.blk 2 rfl) rfl rfl rfl (by kernel_rfl) rfl (by kernel_rfl) ?_
          have he := one_yes (b := b) (by omega)
          exact ⟨_, _, rfl, ⟨0, none, 0, 0, _, [], (by rw [he]), rfl, (by rw [he]; intro h; exact absurd h hc36), _, _, _, rfl, (hS4.trans hS30), (by rw [he]; intro h; exact absurd h hc36)⟩, HH.out (HH.pad hH 1) [true, false, false, true]⟩
        · refine cxSkip ?_
          refine qxThen ?_
          refine cxSeq ?_
          refine cxReg ?_
          refine pxV (v := (.int .i64 ((((b.getD 0 0).toNat % 64) : Nat) : Int))) (fun _ _ hF => opMove rfl (hF.ev 3 rfl)) rfl (fun _ _ => rfl) (kM [false, false, true, false, true] rfl rfl) (by decide) ?_
          refine pxV (v := (.slice A32 ((bdy ((b.getD 0 0).toNat) (b.drop 1)).2.1.length) c33)) (fun _ _ hF => opMove rfl (hF.ev 1 rfl)) rfl (fun _ _ => rfl) (kM [true, false, true] rfl rfl) (by decide) ?_
          refine pxV (v := (.agg #[(.int .i64 ((((b.getD 0 0).toNat % 64) : Nat) : Int)), (.slice A32 ((bdy ((b.getD 0 0).toNat) (b.drop 1)).2.1.length) c33)])) (fun _ _ hF => opBuildP (cells := #[(.int .i64 ((((b.getD 0 0).toNat % 64) : Nat) : Int)), (.slice A32 ((bdy ((b.getD 0 0).toNat) (b.drop 1)).2.1.length) c33)]) rfl (EvP.cons (v := (.int .i64 ((((b.getD 0 0).toNat % 64) : Nat) : Int))) (hF.ev 1 rfl) (EvP.cons (v := (.slice A32 ((bdy ((b.getD 0 0).toNat) (b.drop 1)).2.1.length) c33)) (hF.ev 0 rfl) EvP.nil)) rfl _) rfl (fun _ _ => rfl) (kM [false, false, true] rfl rfl) (by decide) ?_
          refine pxE0 2 hH rfl (fun _ hF => smStoreK (k := 2) rfl (hF.ev 1 rfl) (hF.ev 0 rfl) rfl (by kernel_rfl) (leb rfl) rfl rfl) trivial rfl (fun _ _ => rfl) ?_
          clear hH
          rintro _ _ w rfl hH
          replace hH : HH w0 (bks ([bl g 43 #[.slice A b.length c]])) [[bl g 43 #[(.slice A27 b29.length c28)]], E25, [bl g1 31 #[(.int .i64 ((((b.getD 0 0).toNat % 64) : Nat) : Int)), (.slice A32 ((bdy ((b.getD 0 0).toNat) (b.drop 1)).2.1.length) c33)]]] w := hH
          refine pxV (v := (.int .i64 0)) (fun _ _ hF => opAssign rfl rfl) rfl (fun _ _ => rfl) (kM [false, true] rfl rfl) (by decide) ?_
          refine pxEnd ?_
          refine qxThen ?_
          refine cxRet ?_
          refine qxRetCT 1 0 (hH.blk 2 rfl) rfl rfl rfl (by kernel_rfl) rfl (by kernel_rfl) ?_
          have he := one_yes (b := b) (by omega)
          have hz : (bdy (b.getD 0 0).toNat (b.drop 1)).1 = 0 := Decidable.of_not_not hc36
          exact ⟨_, _, rfl, ⟨((((b.getD 0 0).toNat % 64) : Nat) : Int), A32, _, c33, _, _, (by rw [he]; show _ = Value.tuple #[_, .int .i64 (((bdy (b.getD 0 0).toNat (b.drop 1)).1 : Nat) : Int)]; rw [hz]; rfl), rfl, (by rw [he]; intro _; exact ⟨congrArg Int.ofNat ht, rfl, hO26⟩), _, _, _, rfl, (hS4.trans hS30), (by rw [he]; exact hb31)⟩, hH.out [true, true, false]⟩
end Go.Proofs.Ytjncbpmigpocbaa
