/- AesBack: of every key, nil too, and of every block the law answers true, and what comes in reads as it did. Conditions: those of the given row alone. -/
import Derived.Test.YtcpfiimbobijlaaDoorBackLaw
import Derived.Test.YtcpfiimbobijlaaDoorCards
import Derived.Test.YtcpfiimbobijlaaDoorTie
namespace Go.Proofs.YtcpfiimbobijlaaDoor.aesBack
open Go Go.ChangeShapes Go.WideShapes Go.ChangeAt Go.RowKit
set_option maxRecDepth 100000

theorem back_all (A : Option Addr) (n c : Nat) (key f1 : Nat → UInt8) (W : World) (hs : Row W 0 48 256 boxF) (hk : 0 < n → ∃ b off, A = some ⟨b, off, none⟩ ∧ ∀ j, j < n → W.cell? ⟨b, off + j, none⟩ = some (.int .u8 ((key j).toNat : Int))) :
    Calls Tryd.prog 4 #[.slice A n c, .agg (row 16 f1)] W fun e w' => e = .returned (.bool true) ∧ Below W.heap.size W w' := by
  by_cases h1 : n = 16
  · subst h1
    obtain ⟨b, off, rfl, hcell⟩ := hk (by omega)
    obtain ⟨W4, hW4⟩ := sched_exists boxF 4 key (by omega)
    have hlt : b < W.heap.size := block_lt_of_cell (hcell 0 (by omega))
    exact back_walk16 _ c f1 (Go.Proofs.YtcpfiimbobijlaaDoor.enc boxF 10 W4) (Go.Proofs.YtcpfiimbobijlaaDoor.dec (bk boxF 256) 10 W4)
      (Lib.hid fun w => by rw [run_eql16, eqb_true.2 (dec_enc undo_back 10 (by omega) W4 f1)])
      (Lib.hid fun w => by rw [run_eql16, eqb_true.2 (enc_dec undo_back' 10 (by omega) W4 f1)]) W hs
      (fun inp w hb => Encrypt16 boxF key W4 inp b off c w (hs.below hb hs.lt) (fun j hj => (hb.cell (p := ⟨b, off + j, none⟩) hlt).trans (hcell j hj)) hW4)
      (fun inp w hb => Decrypt16 boxF key W4 inp b off c w (hs.below hb hs.lt) (fun j hj => (hb.cell (p := ⟨b, off + j, none⟩) hlt).trans (hcell j hj)) hW4)
  · by_cases h2 : n = 32
    · subst h2
      obtain ⟨b, off, rfl, hcell⟩ := hk (by omega)
      obtain ⟨W4, hW4⟩ := sched_exists boxF 8 key (by omega)
      have hlt : b < W.heap.size := block_lt_of_cell (hcell 0 (by omega))
      exact back_walk32 _ c f1 (Go.Proofs.YtcpfiimbobijlaaDoor.enc boxF 14 W4) (Go.Proofs.YtcpfiimbobijlaaDoor.dec (bk boxF 256) 14 W4)
        (Lib.hid fun w => by rw [run_eql16, eqb_true.2 (dec_enc undo_back 14 (by omega) W4 f1)])
        (Lib.hid fun w => by rw [run_eql16, eqb_true.2 (enc_dec undo_back' 14 (by omega) W4 f1)]) W hs
        (fun inp w hb => Encrypt32 boxF key W4 inp b off c w (hs.below hb hs.lt) (fun j hj => (hb.cell (p := ⟨b, off + j, none⟩) hlt).trans (hcell j hj)) hW4)
        (fun inp w hb => Decrypt32 boxF key W4 inp b off c w (hs.below hb hs.lt) (fun j hj => (hb.cell (p := ⟨b, off + j, none⟩) hlt).trans (hcell j hj)) hW4)
    · exact back_walkNo A n c f1 h1 h2 W hs (fun inp w _ => Encrypt_bad A n c inp w h1 h2) (fun inp w _ => Decrypt_bad A n c inp w h1 h2)

theorem contract (H : Type) (enc : TypeId × Value → H) (W : World) (base : Nat) (args : Array Value) (ds gs : List (DataW H)) (before : List MemPlace)
    (hval : ∀ (j : Nat) t v, Tryd.f4.params[j]? = some t → args[j]? = some v → Value.okWide Tryd.prog W .any base t v)
    (hW : DataW.Whole enc Tryd.prog Tryd.f4.params.toList Rows.aesBackSpec.vars false W args.toList ds gs before) (hL : laidMetH Tryd.prog Rows.aesBackRow.laid W) (hsh : W.ShapedOpen Tryd.prog) :
    Calls Tryd.prog 4 args W fun e W' => ∃ v, e = .returned v ∧ Rows.aesBackSpec.post enc Tryd.prog Tryd.f4 false true false false W args v W' := by
  have hW' := hW
  obtain ⟨p, q, hA0, hV, rfl, hfz, hnd⟩ := hW
  have hA : DataW.TrodAll enc Tryd.prog W 0 (fun _ => true) true Tryd.f4.params.toList args.toList ds p := hA0
  rw [Tryd.params4] at hA hval
  obtain ⟨v0, vs0, d0, ds0, p0, q0, hargs, rfl, rfl, h0, r0⟩ := trodAll_cons hA
  obtain ⟨v1, vs1, d1, ds1, p1, q1, rfl, rfl, rfl, h1, r1⟩ := trodAll_cons r0
  obtain ⟨rfl, rfl, rfl⟩ := trodAll_nil r1
  obtain rfl : args = #[v0, v1] := by cases args; simp_all
  obtain ⟨rfl, rfl⟩ := trodVars_none hV
  obtain ⟨A0, n0, c0, f0, rfl, hle0, hmx0, hk0⟩ := openB (hval 0 22 v0 rfl rfl) h0
  obtain ⟨f1, rfl⟩ := open16 (hval 1 23 v1 rfl rfl) h1
  clear hA0
  simp only [List.append_nil] at hW'
  have hs := box_row hL hsh
  have l0 : ∀ x ∈ p0, x.block < W.heap.size := fun x hx => hW'.lt x (by simp [hx])
  have l1 : ∀ x ∈ p1, x.block < W.heap.size := fun x hx => hW'.lt x (by simp [hx])
  refine (back_all A0 n0 c0 f0 f1 W hs hk0).mono fun e W' ⟨he, hb⟩ => ?_
  subst he
  refine ⟨_, rfl, _, _, _, [], (p0 ++ (p1 ++ [])), [], hW', trodAll_cons_mk (shut_bool undBool _) trodAll_mk0, (trodAll_cons_mk (WideElems.Trod_stays laidOut readB rowB h0 (fun x hx => hb.same (l0 x hx)) (fun x hx => by simpa using l0 x hx)) (trodAll_cons_mk (WideElems.Trod_stays laidOut read16 row16 h1 (fun x hx => hb.same (l1 x hx)) (fun x hx => by simpa using l1 x hx)) trodAll_mk0)), rfl, hb.frame _, fun h => by cases h⟩

/-- A world for the witness: the settled one, the box as the program's text lays it. -/
noncomputable def laidWorld (os : Os) : World :=
  { World.holding Tryd.prog os ⟨#[], #[], []⟩ with heap := (World.holding Tryd.prog os ⟨#[], #[], []⟩).heap.modify 0 fun
      | .cells _ t frozen => .cells (row 256 boxF) t frozen
      | o => o }
theorem laid_met (os : Os) : laidMet Tryd.prog Rows.aesBackRow.laid ((laidWorld os).forCall (fun _ _ => 0) ⟨#[], #[.slice none 0 0, .agg (row 16 fun _ => 0)], []⟩).memory :=
  laidMet_of_run' 8 (by kernel_rfl) (by kernel_rfl)
theorem reads (os : Os) {H : Type} (enc : TypeId × Value → H) : ∃ places, DataW.whole enc Tryd.prog ((laidWorld os).forCall (fun _ _ => 0) ⟨#[], #[.slice none 0 0, .agg (row 16 fun _ => 0)], []⟩).memory Tryd.f4.params.toList Rows.aesBackSpec.vars false (#[.slice none 0 0, .agg (row 16 fun _ => 0)] : Array Value).toList 8 = some ([.nil, .agg (List.replicate 16 (.lit (.int .u8 0)))], [], places) :=
  ⟨[], by kernel_rfl⟩

set_option maxRecDepth 100000 in
theorem lifted (os : Os) (started : os.Started) (H : Type) (enc : TypeId × Value → H) (F : Stop.Interp) :
    ReturnsInHanded {} Tryd.checked os 4 .any ((OpenSpec.ofChange Rows.aesBackSpec).preRow enc Tryd.prog Tryd.f4 Rows.aesBackRow.domain false Rows.aesBackRow.laid) (((OpenSpec.ofChange Rows.aesBackSpec).at F).post enc Tryd.prog Tryd.f4 false true false false) := by
  obtain ⟨places, hx⟩ := reads os enc
  refine returnsInHanded_of_row (C := Tryd.checked) (s := OpenSpec.ofChange Rows.aesBackSpec) own started (by kernel_rfl) Tryd.func4
    (witness_row_at (enc := enc) (C := Tryd.checked) false (laidWorld os) #[.slice none 0 0, .agg (row 16 fun _ => 0)] rfl (by kernel_rfl) (by kernel_rfl) (by kernel_rfl)
      (OpenSpec.preRow_of_cond 8 hx (by kernel_rfl) (fun k hk => by cases hk) (by kernel_rfl) (laid_met os))) ?_
  intro W base args ds gs before hval hW _ _ _ hL hsh _
  exact contract H enc W base args ds gs before hval hW hL hsh

theorem said : Rows.AesBackSaid :=
  OpenClaim.holds_of_cond 4 Tryd.f4 rfl rfl rfl rfl rfl rfl rfl ⟨rfl, rfl, rfl, rfl, rfl⟩ rfl rfl rfl rfl rfl (by kernel_rfl) Tryd.func4 (by kernel_rfl)
    (of_decide_eq_true (by kernel_rfl)) (by unfold Func.isWrapper; first | (rw [if_pos (by decide +kernel)]; kernel_rfl) | (rw [if_neg (by decide +kernel)]; exact ⟨rfl, rfl⟩))
    (fun os started H enc _ F => by rw [OpenClaim.pre_eq_preRow]; exact lifted os started H enc F)

theorem plain (f : FuncId) (fn : Func) (hf : Tryd.pinned.checked.prog.funcNamed "postilion/postilionlaw02.AesBack" = some f) (hfn : Tryd.pinned.checked.prog.funcs[f]? = some fn) :
    false = Tryd.pinned.checked.prog.looks [] ∧ ∀ (j : Nat) t, fn.params[j]? = some t → Tryd.pinned.checked.prog.wantsStandIn t = false := by
  obtain rfl : f = 4 := Option.some.inj ((show Tryd.prog.funcNamed "postilion/postilionlaw02.AesBack" = some 4 by kernel_rfl).symm.trans hf) |>.symm
  obtain rfl : fn = Tryd.f4 := (Option.some.inj (Tryd.func4.symm.trans hfn)).symm
  refine ⟨by kernel_rfl, fun j t ht => ?_⟩
  rw [Tryd.params4] at ht
  have hm := Array.mem_of_getElem? ht
  simp only [List.mem_toArray, List.mem_cons, List.not_mem_nil, or_false] at hm
  rcases hm with rfl | rfl <;> exact (show Tryd.prog.wantsStandIn _ = false by kernel_rfl)

/-- THE CARD. -/
theorem card : Rows.AesBackCardSaid :=
  Claim7.holds_tied_plain_at .later [] _ _ _ _ said (fun _ h => by cases h) (by kernel_rfl) (fun _ h => by cases h) aesBack_row_tie rfl ⟨rfl, rfl⟩ (by kernel_rfl) rfl plain (by kernel_rfl)
#print axioms card
end Go.Proofs.YtcpfiimbobijlaaDoor.aesBack
