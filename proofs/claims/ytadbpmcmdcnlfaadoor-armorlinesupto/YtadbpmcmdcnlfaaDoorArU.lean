/- The program's Unbase64. -/
import Derived.Test.YtadbpmcmdcnlfaaDoorArA
import Derived.Test.YtadbpmcmdcnlfaaDoorLbA
namespace Go.Proofs.YtadbpmcmdcnlfaaDoor
open Go Go.RowKit
set_option maxRecDepth 100000

theorem tr1_c (l : List UInt8) (hl : l.length ≤ 9223372036854775807) : Pure Tryd.prog 34 #[.string (strL l), .string (strL [61])] (fun _ => True) (.string (strL (tr1 l))) := trim_suffix_c l 61 hl
/-- What Unbase64 answers. -/
def UnPost (r : Option (List UInt8)) (v : Value) (E' : Hl) : Prop :=
  (r = none ∧ v = .tuple #[.slice none 0 0, .int .i64 2] ∧ E' = []) ∨ ∃ b A c, r = some b ∧ v = .tuple #[.slice A b.length c, .int .i64 0] ∧ OwnT cByte 5 (.slice A b.length c) b E'

set_option maxHeartbeats 8000000 in
theorem unbase64_c (s : List UInt8) (hs : s.length ≤ 1099511627776) : Does Tryd.prog 15 #[(.string (strL s))] [] (fun _ => True) (fun v E' => UnPost (unP s) v E') := by
  refine does_of (fn := Tryd.f15) Tryd.func15 rfl Tryd.ntmps15 (Nat.le_of_ble_eq_true rfl) rfl ?_
  intro w0 hH hR
  replace hH : HH w0 [] [] w0 := hH.only [false]
  refine cxSeq ?_
  refine cxReg ?_
  refine pxV (v := (.slice none 0 0)) (fun _ _ hF => opAssign rfl rfl) rfl (fun _ _ => rfl) (kA rfl) (by decide) ?_
  refine pxV (v := (.int .i64 0)) (fun _ _ hF => opAssign rfl rfl) rfl (fun _ _ => rfl) (kM [false, true] rfl rfl) (by decide) ?_
  refine pxEnd ?_
  refine qxThen ?_
  refine cxSeq ?_
  refine cxSeq ?_
  refine cxReg ?_
  refine pxV (v := (.string (strL s))) (fun _ _ hF => opMove rfl (hF.ev 1 rfl)) rfl (fun _ _ => rfl) (kM [false, true] rfl rfl) (by decide) ?_
  refine pxV (v := (.int .i64 (((s.length) : Nat) : Int))) (fun _ _ hF => opLenL (l := s) rfl (by kernel_rfl) (hF.ev 0 rfl)) rfl (fun _ _ => rfl) (kM [false, true] rfl rfl) (by decide) ?_
  refine pxV (v := (.int .i64 (((s.length % 4) : Nat) : Int))) (fun _ _ hF => opRem (z := ((s.length % 4 : Nat) : Int)) rfl (hF.ev 0 rfl) rfl (by omega) remN) rfl (fun _ _ => rfl) (kM [false, true] rfl rfl) (by decide) ?_
  refine pxV (v := (.bool (decide (s.length % 4 ≠ 0)))) (fun _ _ hF => opNeI rfl (hF.ev 0 rfl) rfl (dc (by omega))) rfl (fun _ _ => rfl) (kM [false, true] rfl rfl) (by decide) ?_
  refine pxEnd ?_
  refine qxThen ?_
  refine cxP 0 rfl rfl (fun hc1 => ?_) (fun hc1 => ?_)
  · refine cxSeq ?_
    refine cxReg ?_
    refine pxV (v := (.slice none 0 0)) (fun _ _ hF => opAssign rfl rfl) rfl (fun _ _ => rfl) (kM [false, false] rfl rfl) (by decide) ?_
    refine pxV (v := (.int .i64 2)) (fun _ _ hF => opAssign rfl rfl) rfl (fun _ _ => rfl) (kA rfl) (by decide) ?_
    refine pxEnd ?_
    refine qxThen ?_
    refine cxRet ?_
    refine qxThenR ?_
    refine qxRet2 1 0 rfl rfl rfl ?_
    exact ⟨_, _, rfl, .inl ⟨unP_len hc1, rfl, rfl⟩, hH.out []⟩
  · refine cxSkip ?_
    refine qxThen ?_
    refine cxSeq ?_
    refine cxReg ?_
    refine pxV (v := (.string (strL s))) (fun _ _ hF => opMove rfl (hF.ev 1 rfl)) rfl (fun _ _ => rfl) (kM [false, true] rfl rfl) (by decide) ?_
    refine pxV (v := (.int .i64 (((s.length) : Nat) : Int))) (fun _ _ hF => opLenL (l := s) rfl (by kernel_rfl) (hF.ev 0 rfl)) rfl (fun _ _ => rfl) (kM [false, true] rfl rfl) (by decide) ?_
    refine pxV (v := (.int .i64 (((s.length / 4) : Nat) : Int))) (fun _ _ hF => opQuo (z := ((s.length / 4 : Nat) : Int)) rfl (hF.ev 0 rfl) rfl (by omega) (wI quoN (by omega) (by omega))) rfl (fun _ _ => rfl) (kM [false, true] rfl rfl) (by decide) ?_
    refine pxV (v := (.int .i64 ((((s.length / 4) * 3) : Nat) : Int))) (fun _ _ hF => opMul rfl (hF.ev 0 rfl) rfl (wI (by omega) (by omega) (by omega))) rfl (fun _ _ => rfl) (kM [false, true] rfl rfl) (by decide) ?_
    refine pxM hH (fun _ hF => smMake0 (e := 5) (n := (s.length / 4) * 3) (sz := 1) (by_ := 1) (z := (.int .u8 0)) (cs := madeCells (cByte.enc 0) (((s.length / 4) * 3) * 1)) rfl (by kernel_rfl) (by kernel_rfl) rfl (hF.ev 0 rfl) rfl (by omega) (by omega) rfl) trivial rfl (fun _ _ => rfl) (kM [false, true] rfl rfl) (by decide) ?_
    clear hH
    rintro _ _ w ⟨g2, rfl, rfl⟩ hH
    replace hH : HH w0 [] [[bl g2 5 (madeCells (cByte.enc 0) (((s.length / 4) * 3) * 1))]] w := hH
    refine pxV (v := (.slice (some ⟨g2, 0, none⟩) 0 ((s.length / 4) * 3))) (fun _ _ hF => opAssign rfl (hF.ev 0 rfl)) rfl (fun _ _ => rfl) (kM [false, true] rfl rfl) (by decide) ?_
    refine pxEnd ?_
    refine qxThen ?_
    refine cxSeq ?_
    refine cxReg ?_
    refine pxV (v := (.string (strL s))) (fun _ _ hF => opMove rfl (hF.ev 1 rfl)) rfl (fun _ _ => rfl) (kM [true, false] rfl rfl) (by decide) ?_
    refine pxM hH (fun _ hF => Does.small ((tr1_c s (by omega)).does) (fun w => opCall rfl Tryd.func34 rfl rfl (Evs.cons (v := (.string (strL s))) (hF.ev 0 rfl) (Evs.cons (v := (.string (strL ([61])))) rfl Evs.nil)) w)) trivial rfl (fun _ _ => rfl) (kM [false, true] rfl rfl) (by decide) ?_
    clear hH
    rintro _ _ w ⟨rfl, rfl⟩ hH
    replace hH : HH w0 [] [[bl g2 5 (madeCells (cByte.enc 0) (((s.length / 4) * 3) * 1))]] w := hH.unpad
    refine pxM hH (fun _ hF => Does.small ((tr1_c (tr1 s) (by have := tr1_len s; omega)).does) (fun w => opCall rfl Tryd.func34 rfl rfl (Evs.cons (v := (.string (strL (tr1 s)))) (hF.ev 0 rfl) (Evs.cons (v := (.string (strL ([61])))) rfl Evs.nil)) w)) trivial rfl (fun _ _ => rfl) (kM [false, true] rfl rfl) (by decide) ?_
    clear hH
    rintro _ _ w ⟨rfl, rfl⟩ hH
    replace hH : HH w0 [] [[bl g2 5 (madeCells (cByte.enc 0) (((s.length / 4) * 3) * 1))]] w := hH.unpad
    refine pxV (v := (.string (strL (tr1 (tr1 s))))) (fun _ _ hF => opAssign rfl (hF.ev 0 rfl)) rfl (fun _ _ => rfl) (kM [false, true] rfl rfl) (by decide) ?_
    refine pxEnd ?_
    refine qxThen ?_
    refine cxSeq ?_
    obtain ⟨t, ht⟩ : ∃ t, tr1 (tr1 s) = t := ⟨_, rfl⟩
    have htl : t.length ≤ s.length := by have h1 := tr1_len s; have h2 := tr1_len (tr1 s); rw [ht] at h2; omega
    rw [ht]
    refine cxReg ?_
    refine pxV (v := (.int .u32 0)) (fun _ _ hF => opAssign rfl rfl) rfl (fun _ _ => rfl) (kA rfl) (by decide) ?_
    refine pxEnd ?_
    refine qxThen ?_
    refine cxSeq ?_
    refine cxReg ?_
    refine pxV (v := (.int .i64 0)) (fun _ _ hF => opAssign rfl rfl) rfl (fun _ _ => rfl) (kA rfl) (by decide) ?_
    refine pxEnd ?_
    refine qxThen ?_
    refine cxSeq ?_
    refine cxSeq ?_
    refine cxReg ?_
    refine pxV (v := (.string (strL t))) (fun _ _ hF => opMove rfl (hF.ev 2 rfl)) rfl (fun _ _ => rfl) (kA rfl) (by decide) ?_
    refine pxV (v := (.int .i64 (((t.length) : Nat) : Int))) (fun _ _ hF => opLenL (l := t) rfl (by kernel_rfl) (hF.ev 0 rfl)) rfl (fun _ _ => rfl) (kM [false, true, true, true, true] rfl rfl) (by decide) ?_
    refine pxV (v := (.int .i64 0)) (fun _ _ hF => opMove rfl rfl) rfl (fun _ _ => rfl) (kA rfl) (by decide) ?_
    refine pxEnd ?_
    refine qxThen ?_
    refine cxBlock ?_
    refine cxLoop (σ := Nat × Nat × Nat × (List UInt8) × (Option Addr) × Nat × Hl) (fun x => [(23, (.int .i64 (((x.1) : Nat) : Int))), (22, (.int .i64 (((t.length) : Nat) : Int))), (6, (.int .i64 (((x.2.2.1) : Nat) : Int))), (5, (.int .u32 (((x.2.1) : Nat) : Int))), (4, (.slice x.2.2.2.2.1 x.2.2.2.1.length x.2.2.2.2.2.1)), (0, (.string (strL t)))]) (fun x w => HH w0 [] [x.2.2.2.2.2.2] w ∧ (x.1 ≤ t.length) ∧ (x.2.1 < 4294967296) ∧ (x.2.2.1 < 8) ∧ (x.2.2.2.1.length ≤ x.1) ∧ ((du x.2.2.1 (x.2.1 % 2 ^ x.2.2.1) (t.drop x.1)).map (x.2.2.2.1 ++ ·) = du 0 0 t) ∧ (OwnT cByte 5 (.slice x.2.2.2.2.1 x.2.2.2.1.length x.2.2.2.2.2.1) x.2.2.2.1 x.2.2.2.2.2.2)) (fun x => t.length - x.1) (0, 0, 0, [], (some ⟨g2, 0, none⟩), (s.length / 4) * 3, [bl g2 5 (madeCells (cByte.enc 0) (((s.length / 4) * 3) * 1))]) ⟨hH, Nat.zero_le _, (ltb rfl), (ltb rfl), Nat.le_refl _, (du_start t), ((Bk.make0 (C := cByte) 0 ((s.length / 4) * 3) (by unfold maxLen; omega)).own 5 g2 rfl)⟩ (slots_at [0, 1, 2, 3, 5, 4] rfl) ?_
    clear hH
    rintro ⟨i, bits, left, o, A1, c1, E⟩ w ⟨hH, hi, hb, hlf, hol, hinv, hO⟩
    change CX _ _ _ _ [(23, (.int .i64 (((i) : Nat) : Int))), (22, (.int .i64 (((t.length) : Nat) : Int))), (6, (.int .i64 (((left) : Nat) : Int))), (5, (.int .u32 (((bits) : Nat) : Int))), (4, (.slice A1 o.length c1)), (0, (.string (strL t)))] _
    replace hH : HH w0 [] [E] w := hH
    replace hi : i ≤ t.length := hi
    replace hb : bits < 4294967296 := hb
    replace hlf : left < 8 := hlf
    replace hol : o.length ≤ i := hol
    replace hinv : (du left (bits % 2 ^ left) (t.drop i)).map (o ++ ·) = du 0 0 t := hinv
    replace hO : OwnT cByte 5 (.slice A1 o.length c1) o E := hO
    refine cxSeq ?_
    refine cxReg ?_
    refine pxV (v := (.bool (decide (i < t.length)))) (fun _ _ hF => opLss rfl (hF.ev 0 rfl) (hF.ev 1 rfl) (dc (by omega))) rfl (fun _ _ => rfl) (kA rfl) (by decide) ?_
    refine pxEnd ?_
    refine qxThen ?_
    refine cxSeq ?_
    refine cxP 0 rfl rfl (fun hc3 => ?_) (fun hc3 => ?_)
    · refine cxSkip ?_
      refine qxThen ?_
      refine cxSeq ?_
      refine cxBlock ?_
      refine cxSeq ?_
      refine cxReg ?_
      refine pxV (v := (.int .i64 (((i) : Nat) : Int))) (fun _ _ hF => opMove rfl (hF.ev 1 rfl)) rfl (fun _ _ => rfl) (kM [false, true, true, true, true, true, true] rfl rfl) (by decide) ?_
      refine pxV (v := (.int .i64 (((i) : Nat) : Int))) (fun _ _ hF => opAssign rfl (hF.ev 0 rfl)) rfl (fun _ _ => rfl) (kM [false, true, true, true, true, true, true] rfl rfl) (by decide) ?_
      refine pxEnd ?_
      refine qxThen ?_
      refine cxSeq ?_
      refine cxReg ?_
      refine pxV (v := (.string (strL t))) (fun _ _ hF => opMove rfl (hF.ev 6 rfl)) rfl (fun _ _ => rfl) (kA rfl) (by decide) ?_
      refine pxV (v := (.int .i64 (((i) : Nat) : Int))) (fun _ _ hF => opMove rfl (hF.ev 1 rfl)) rfl (fun _ _ => rfl) (kM [true, false, true, true, true, true, true, true] rfl rfl) (by decide) ?_
      obtain ⟨x4, hx5⟩ := get_at t i (by omega)
      have hb6 := UInt8.toNat_lt x4
      refine pxV (v := (.int .u8 (((x4.toNat) : Nat) : Int))) (fun _ _ hF => opIdxL (l := t) (i := i) (c := x4) rfl (by kernel_rfl) (hF.ev 1 rfl) (hF.ev 0 rfl) rfl hx5) rfl (fun _ _ => rfl) (kM [false, false, true, true, true, true, true, true] rfl rfl) (by decide) ?_
      refine pxM hH (fun _ hF => Does.small ((index_sgn_c x4).does) (fun w => opCall rfl Tryd.func35 rfl rfl (Evs.cons (v := (.string (strL sgnL))) rfl (Evs.cons (v := (.int .u8 (((x4.toNat) : Nat) : Int))) (hF.ev 0 rfl) Evs.nil)) w)) trivial rfl (fun _ _ => rfl) (kM [false, true, true, true, true, true, true] rfl rfl) (by decide) ?_
      clear hH
      rintro _ _ w ⟨rfl, rfl⟩ hH
      replace hH : HH w0 [] [E] w := hH.unpad
      refine pxV (v := (.int .i64 (if sgI x4 < 64 then ((sgI x4 : Nat) : Int) else -1))) (fun _ _ hF => opAssign rfl (hF.ev 0 rfl)) rfl (fun _ _ => rfl) (kM [false, true, true, true, true, true, true] rfl rfl) (by decide) ?_
      refine pxEnd ?_
      refine qxThen ?_
      refine cxSeq ?_
      refine cxSeq ?_
      rcases Nat.lt_or_ge (sgI x4) 64 with hv | hv
      · rw [if_pos hv]
        refine cxReg ?_
        refine pxV (v := (.int .i64 (((sgI x4) : Nat) : Int))) (fun _ _ hF => opMove rfl (hF.ev 0 rfl)) rfl (fun _ _ => rfl) (kA rfl) (by decide) ?_
        refine pxV (v := (.bool false)) (fun _ _ hF => opLss rfl (hF.ev 0 rfl) rfl (decide_eq_false (by omega))) rfl (fun _ _ => rfl) (kM [false, true, true, true, true, true, true, true] rfl rfl) (by decide) ?_
        refine pxEnd ?_
        refine qxThen ?_
        refine cxF 0 rfl rfl ?_
        refine cxSkip ?_
        refine qxThen ?_
        refine cxSeq ?_
        refine cxReg ?_
        refine pxV (v := (.int .u32 (((bits) : Nat) : Int))) (fun _ _ hF => opMove rfl (hF.ev 5 rfl)) rfl (fun _ _ => rfl) (kM [false, true, true, true, true, false, true, true] rfl rfl) (by decide) ?_
        refine pxV (v := (.int .u32 ((((bits * 2 ^ 6) % 4294967296) : Nat) : Int))) (fun _ _ hF => opShlU (n := 6) (z := ((bits * 2 ^ 6) % 4294967296)) rfl rfl (hF.ev 0 rfl) rfl (leb rfl) (rfl)) rfl (fun _ _ => rfl) (kM [false, true, true, true, true, true, true] rfl rfl) (by decide) ?_
        refine pxV (v := (.int .i64 (((sgI x4) : Nat) : Int))) (fun _ _ hF => opMove rfl (hF.ev 1 rfl)) rfl (fun _ _ => rfl) (kM [true, false, true, true, true, true, true] rfl rfl) (by decide) ?_
        refine pxV (v := (.int .u32 (((sgI x4) : Nat) : Int))) (fun _ _ hF => opConvU (k' := .u32) (m := sgI x4) rfl rfl (by kernel_rfl) (by kernel_rfl) (hF.ev 0 rfl) (Nat.mod_eq_of_lt (by show _ < 4294967296; omega))) rfl (fun _ _ => rfl) (kM [false, true, true, true, true, true, true] rfl rfl) (by decide) ?_
        obtain ⟨nb, hnb⟩ : ∃ nb, (bits * 2 ^ 6) % 4294967296 ||| sgI x4 = nb := ⟨_, rfl⟩
        have hpb := push_bits (bits := bits) (left := left) (k := 6) (x := sgI x4) (by omega) (by show _ < 64; omega)
        rw [hnb] at hpb
        obtain ⟨hnb1, hnb2⟩ := hpb
        refine pxV (v := (.int .u32 (((nb) : Nat) : Int))) (fun _ _ hF => opOrU (m := (bits * 2 ^ 6) % 4294967296) (j := sgI x4) (z := nb) rfl rfl (hF.ev 1 rfl) (hF.ev 0 rfl) (by show _ < 4294967296; omega) (by show _ < 4294967296; omega) (hnb)) rfl (fun _ _ => rfl) (kM [false, false, true, true, true, true, true] rfl rfl) (by decide) ?_
        refine pxV (v := (.int .u32 (((nb) : Nat) : Int))) (fun _ _ hF => opAssign rfl (hF.ev 0 rfl)) rfl (fun _ _ => rfl) (kM [false, true, true, true, true, true] rfl rfl) (by decide) ?_
        refine pxEnd ?_
        refine qxThen ?_
        refine cxSeq ?_
        refine cxReg ?_
        refine pxV (v := (.int .i64 (((left) : Nat) : Int))) (fun _ _ hF => opMove rfl (hF.ev 3 rfl)) rfl (fun _ _ => rfl) (kM [true, true, true, false, true, true] rfl rfl) (by decide) ?_
        refine pxV (v := (.int .i64 (((left + 6) : Nat) : Int))) (fun _ _ hF => opAdd rfl (hF.ev 0 rfl) rfl (wI (by omega) (by omega) (by omega))) rfl (fun _ _ => rfl) (kM [false, true, true, true, true, true] rfl rfl) (by decide) ?_
        refine pxV (v := (.int .i64 (((left + 6) : Nat) : Int))) (fun _ _ hF => opAssign rfl (hF.ev 0 rfl)) rfl (fun _ _ => rfl) (kM [false, true, true, true, true, true] rfl rfl) (by decide) ?_
        refine pxEnd ?_
        refine qxThen ?_
        refine cxSeq ?_
        refine cxReg ?_
        refine pxV (v := (.int .i64 (((left + 6) : Nat) : Int))) (fun _ _ hF => opMove rfl (hF.ev 0 rfl)) rfl (fun _ _ => rfl) (kA rfl) (by decide) ?_
        refine pxV (v := (.bool (decide (left + 6 ≥ 8)))) (fun _ _ hF => opGeq rfl (hF.ev 0 rfl) rfl (dc (by omega))) rfl (fun _ _ => rfl) (kM [false, true, true, true, true, true, true] rfl rfl) (by decide) ?_
        refine pxEnd ?_
        refine qxThen ?_
        refine cxP 0 rfl rfl (fun hc7 => ?_) (fun hc7 => ?_)
        · refine cxSeq ?_
          refine cxReg ?_
          refine pxV (v := (.int .i64 (((left + 6) : Nat) : Int))) (fun _ _ hF => opMove rfl (hF.ev 1 rfl)) rfl (fun _ _ => rfl) (kM [false, false, true, true, true, true, true] rfl rfl) (by decide) ?_
          refine pxV (v := (.int .i64 ((((left - 2)) : Nat) : Int))) (fun _ _ hF => opSub rfl (hF.ev 0 rfl) rfl (wI (by omega) (by omega) (by omega))) rfl (fun _ _ => rfl) (kM [false, true, true, true, true, true] rfl rfl) (by decide) ?_
          refine pxV (v := (.int .i64 ((((left - 2)) : Nat) : Int))) (fun _ _ hF => opAssign rfl (hF.ev 0 rfl)) rfl (fun _ _ => rfl) (kM [false, true, true, true, true, true] rfl rfl) (by decide) ?_
          refine pxEnd ?_
          refine qxThen ?_
          refine cxReg ?_
          refine pxV (v := (.slice A1 o.length c1)) (fun _ _ hF => opMove rfl (hF.ev 4 rfl)) rfl (fun _ _ => rfl) (kM [true, true, true, true, false, true] rfl rfl) (by decide) ?_
          refine pxV (v := (.int .u32 (((nb) : Nat) : Int))) (fun _ _ hF => opMove rfl (hF.ev 2 rfl)) rfl (fun _ _ => rfl) (kA rfl) (by decide) ?_
          refine pxV (v := (.int .i64 ((((left - 2)) : Nat) : Int))) (fun _ _ hF => opMove rfl (hF.ev 2 rfl)) rfl (fun _ _ => rfl) (kA rfl) (by decide) ?_
          refine pxV (v := (.int .u32 (((nb / 2 ^ (left - 2)) : Nat) : Int))) (fun _ _ hF => opShrU (n := (left - 2)) (z := (nb / 2 ^ (left - 2))) rfl (hF.ev 1 rfl) (hF.ev 0 rfl) (by show _ ≤ 32; omega) (rfl)) rfl (fun _ _ => rfl) (kM [false, false, true, true, true, true, true, true] rfl rfl) (by decide) ?_
          refine pxV (v := (.int .u8 ((((UInt8.ofNat (nb / 2 ^ (left - 2))).toNat) : Nat) : Int))) (fun _ _ hF => opConvU (k' := .u8) rfl rfl (by kernel_rfl) (by kernel_rfl) (hF.ev 0 rfl) (UInt8.toNat_ofNat' (n := nb / 2 ^ (left - 2))).symm) rfl (fun _ _ => rfl) (kM [false, true, true, true, true, true, true] rfl rfl) (by decide) ?_
          refine pxM hH (fun _ hF => smLit1 (e := 5) (sz := 1) (z := (.int .u8 0)) (by_ := 1) (cs := cByte.enc (UInt8.ofNat (nb / 2 ^ (left - 2)))) rfl (by kernel_rfl) (by kernel_rfl) (hF.ev 0 rfl) (cByte.len (UInt8.ofNat (nb / 2 ^ (left - 2)))) (ltb rfl) (leb rfl) rfl) trivial rfl (fun _ _ => rfl) (kM [false, true, true, true, true, true, true] rfl rfl) (by decide) ?_
          clear hH
          rintro _ _ w ⟨g8, rfl, rfl⟩ hH
          replace hH : HH w0 [] [E, [bl g8 5 (cByte.enc (UInt8.ofNat (nb / 2 ^ (left - 2))))]] w := hH
          refine pxE 0 hH rfl (fun _ hF => smAppT (C := cByte) (l := o) (m := [(UInt8.ofNat (nb / 2 ^ (left - 2)))]) (e := 5) (z := (.int .u8 0)) (by_ := 1) rfl (by kernel_rfl) (by kernel_rfl) rfl (ltb rfl) (hF.ev 1 rfl) hO (hF.ev 0 rfl) rfl (fun h => by cases h) (by unfold maxLen; omega) (by omega)) ((Bk.lit1 (C := cByte) (UInt8.ofNat (nb / 2 ^ (left - 2)))).vu (n := 1) (hH.blk 1 rfl) rfl) rfl (fun _ _ => rfl) (kM [false, false, true, true, true, true, true] rfl rfl) (by decide) ?_
          clear hH
          rintro v11 E12 w ⟨hO13, _⟩ hH
          replace hH : HH w0 [] [E12, [bl g8 5 (cByte.enc (UInt8.ofNat (nb / 2 ^ (left - 2))))]] w := hH
          replace hO13 : OwnT cByte 5 v11 (o ++ [(UInt8.ofNat (nb / 2 ^ (left - 2)))]) E12 := hO13
          obtain ⟨A9, c10, rfl⟩ := hO13.slice
          refine pxV (v := (.slice A9 ((o ++ [(UInt8.ofNat (nb / 2 ^ (left - 2)))]).length) c10)) (fun _ _ hF => opAssign rfl (hF.ev 0 rfl)) rfl (fun _ _ => rfl) (kM [false, true, true, true, true, true] rfl rfl) (by decide) ?_
          refine pxEnd ?_
          refine qxInN ?_
          refine qxThen ?_
          refine cxReg ?_
          refine pxV (v := (.int .i64 (((i + 1) : Nat) : Int))) (fun _ _ hF => opAdd rfl (hF.ev 3 rfl) rfl (wI (by omega) (by omega) (by omega))) rfl (fun _ _ => rfl) (kM [true, true, true, false, true, true] rfl rfl) (by decide) ?_
          refine pxV (v := (.int .i64 (((i + 1) : Nat) : Int))) (fun _ _ hF => opMove rfl (hF.ev 0 rfl)) rfl (fun _ _ => rfl) (kM [false, true, true, true, true, true] rfl rfl) (by decide) ?_
          refine pxEnd ?_
          replace hH : HH w0 [] [E12] w := hH.only [true, false]
          exact qxRound ((i + 1), nb, (left - 2), (o ++ [(UInt8.ofNat (nb / 2 ^ (left - 2)))]), A9, c10, E12) ⟨hH, (show (i + 1) ≤ t.length from by omega), hnb2, (show (left - 2) < 8 from by omega), (show (o ++ [(UInt8.ofNat (nb / 2 ^ (left - 2)))]).length ≤ (i + 1) from (by rw [List.length_append, List.length_singleton]; omega)), (show (du (left - 2) (nb % 2 ^ (left - 2)) (t.drop (i + 1))).map ((o ++ [(UInt8.ofNat (nb / 2 ^ (left - 2)))]) ++ ·) = du 0 0 t from (du_byte hv (by omega) hnb1 (by rw [← drop_at hx5]; exact hinv))), hO13⟩ (by show t.length - (i + 1) < t.length - i; omega) (slots_at [0, 4, 2, 3, 1, 5] rfl)
        · refine cxSkip ?_
          refine qxInN ?_
          refine qxThen ?_
          refine cxReg ?_
          refine pxV (v := (.int .i64 (((i + 1) : Nat) : Int))) (fun _ _ hF => opAdd rfl (hF.ev 3 rfl) rfl (wI (by omega) (by omega) (by omega))) rfl (fun _ _ => rfl) (kM [false, true, true, false, true, true, true] rfl rfl) (by decide) ?_
          refine pxV (v := (.int .i64 (((i + 1) : Nat) : Int))) (fun _ _ hF => opMove rfl (hF.ev 0 rfl)) rfl (fun _ _ => rfl) (kM [false, true, true, true, true, true] rfl rfl) (by decide) ?_
          refine pxEnd ?_
          exact qxRound ((i + 1), nb, (left + 6), o, A1, c1, E) ⟨hH, (show (i + 1) ≤ t.length from by omega), hnb2, (show (left + 6) < 8 from by omega), (show o.length ≤ (i + 1) from (by omega)), (show (du (left + 6) (nb % 2 ^ (left + 6)) (t.drop (i + 1))).map (o ++ ·) = du 0 0 t from (du_in hv (by omega) hnb1 (by rw [← drop_at hx5]; exact hinv))), hO⟩ (by show t.length - (i + 1) < t.length - i; omega) (slots_at [0, 3, 1, 2, 4, 5] rfl)
      · rw [if_neg (by omega)]
        refine cxReg ?_
        refine pxV (v := (.int .i64 (-1))) (fun _ _ hF => opMove rfl (hF.ev 0 rfl)) rfl (fun _ _ => rfl) (kA rfl) (by decide) ?_
        refine pxV (v := (.bool true)) (fun _ _ hF => opLss rfl (hF.ev 0 rfl) rfl (decide_eq_true (by decide))) rfl (fun _ _ => rfl) (kM [false, true, true, true, true, true, true, true] rfl rfl) (by decide) ?_
        refine pxEnd ?_
        refine qxThen ?_
        refine cxT 0 rfl rfl ?_
        refine cxSeq ?_
        refine cxReg ?_
        refine pxV (v := (.slice none 0 0)) (fun _ _ hF => opAssign rfl rfl) rfl (fun _ _ => rfl) (kM [false, false, false, false, false, false, false, false] rfl rfl) (by decide) ?_
        refine pxV (v := (.int .i64 2)) (fun _ _ hF => opAssign rfl rfl) rfl (fun _ _ => rfl) (kA rfl) (by decide) ?_
        refine pxEnd ?_
        refine qxThen ?_
        refine cxRet ?_
        refine qxThenR ?_
        refine qxInR ?_
        refine qxThenR ?_
        refine qxThenR ?_
        refine qxInR ?_
        refine qxThenR ?_
        refine qxRet2 1 0 rfl rfl rfl ?_
        exact ⟨_, _, rfl, .inl ⟨(unP_eq hc1 ht).trans (du_no (x := x4) (by omega) (by rw [← drop_at hx5]; exact hinv)), rfl, rfl⟩, hH.out [false]⟩
    · refine cxExit ?_
      refine qxThenE ?_
      refine qxThenE ?_
      refine qxInE ?_
      refine qxThen ?_
      refine cxSeq ?_
      refine cxSeq ?_
      have hp1 : 0 < 2 ^ left := Nat.pow_pos (by decide)
      have hp2 : 2 ^ left ≤ 2 ^ 31 := Nat.pow_le_pow_right (by decide) (by omega)
      have hp3 : (2 : Nat) ^ 31 = 2147483648 := by decide
      have hp4 : bits % 2 ^ left < 2 ^ left := Nat.mod_lt _ hp1
      refine cxReg ?_
      refine pxV (v := (.int .u32 (((bits) : Nat) : Int))) (fun _ _ hF => opMove rfl (hF.ev 4 rfl)) rfl (fun _ _ => rfl) (kM [false, false, false, true, false, true, false] rfl rfl) (by decide) ?_
      refine pxV (v := (.int .i64 (((left) : Nat) : Int))) (fun _ _ hF => opMove rfl (hF.ev 1 rfl)) rfl (fun _ _ => rfl) (kM [true, false, true] rfl rfl) (by decide) ?_
      refine pxV (v := (.int .u32 (((2 ^ left) : Nat) : Int))) (fun _ _ hF => opShlU (n := left) (z := (2 ^ left)) rfl rfl rfl (hF.ev 0 rfl) (by show _ ≤ 32; omega) (by show (1 * 2 ^ left) % 4294967296 = _; exact mask_bits (by omega))) rfl (fun _ _ => rfl) (kM [false, true, true] rfl rfl) (by decide) ?_
      refine pxV (v := (.int .u32 ((((2 ^ left - 1)) : Nat) : Int))) (fun _ _ hF => opSubU (m := 2 ^ left) (j := 1) (z := (2 ^ left - 1)) rfl rfl (hF.ev 0 rfl) rfl (by show 1 ≤ 4294967296; omega) (by show (2 ^ left + (4294967296 - 1)) % 4294967296 = _; omega)) rfl (fun _ _ => rfl) (kM [false, true, true] rfl rfl) (by decide) ?_
      refine pxV (v := (.int .u32 (((bits % 2 ^ left) : Nat) : Int))) (fun _ _ hF => opAndU (m := bits) (j := (2 ^ left - 1)) (z := (bits % 2 ^ left)) rfl rfl (hF.ev 1 rfl) (hF.ev 0 rfl) (by show _ < 4294967296; omega) (by show _ < 4294967296; omega) (and_mask _ _)) rfl (fun _ _ => rfl) (kM [false, false, true] rfl rfl) (by decide) ?_
      refine pxV (v := (.bool (decide (bits % 2 ^ left ≠ 0)))) (fun _ _ hF => opNeI rfl (hF.ev 0 rfl) rfl (dc (by omega))) rfl (fun _ _ => rfl) (kM [false, true] rfl rfl) (by decide) ?_
      refine pxEnd ?_
      refine qxThen ?_
      refine cxP 0 rfl rfl (fun hc14 => ?_) (fun hc14 => ?_)
      · refine cxSeq ?_
        refine cxReg ?_
        refine pxV (v := (.slice none 0 0)) (fun _ _ hF => opAssign rfl rfl) rfl (fun _ _ => rfl) (kM [false, false] rfl rfl) (by decide) ?_
        refine pxV (v := (.int .i64 2)) (fun _ _ hF => opAssign rfl rfl) rfl (fun _ _ => rfl) (kA rfl) (by decide) ?_
        refine pxEnd ?_
        refine qxThen ?_
        refine cxRet ?_
        refine qxThenR ?_
        refine qxRet2 1 0 rfl rfl rfl ?_
        exact ⟨_, _, rfl, .inl ⟨(unP_eq hc1 ht).trans (by have e : i = t.length := (by omega); subst e; rw [List.drop_length] at hinv; rw [du_end hinv, if_neg (by omega)]), rfl, rfl⟩, hH.out [false]⟩
      · refine cxSkip ?_
        refine qxThen ?_
        refine cxSeq ?_
        refine cxReg ?_
        refine pxV (v := (.slice A1 o.length c1)) (fun _ _ hF => opMove rfl (hF.ev 1 rfl)) rfl (fun _ _ => rfl) (kM [false, false] rfl rfl) (by decide) ?_
        refine pxV (v := (.slice A1 o.length c1)) (fun _ _ hF => opAssign rfl (hF.ev 0 rfl)) rfl (fun _ _ => rfl) (kM [false] rfl rfl) (by decide) ?_
        refine pxV (v := (.int .i64 0)) (fun _ _ hF => opAssign rfl rfl) rfl (fun _ _ => rfl) (kA rfl) (by decide) ?_
        refine pxEnd ?_
        refine qxThen ?_
        refine cxRet ?_
        refine qxRet2 1 0 rfl rfl rfl ?_
        have e : i = t.length := by omega
        subst e; rw [List.drop_length] at hinv
        have hz : bits % 2 ^ left = 0 := by omega
        have hu := (unP_eq hc1 ht).trans (du_end hinv)
        rw [if_pos hz] at hu
        exact ⟨_, _, rfl, .inr ⟨o, _, _, hu, rfl, hO⟩, hH.out1 [true] rfl⟩

end Go.Proofs.YtadbpmcmdcnlfaaDoor
