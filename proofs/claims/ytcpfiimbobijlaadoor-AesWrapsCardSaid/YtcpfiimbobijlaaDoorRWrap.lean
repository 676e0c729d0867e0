/- The document's Wrap. -/
import Derived.Test.YtcpfiimbobijlaaDoorPRow
import Derived.Test.YtcpfiimbobijlaaDoorWLeaf
import Derived.Test.YtcpfiimbobijlaaDoorUnwrap
import Derived.Test.YtcpfiimbobijlaaDoorRTop
import Derived.Test.YtcpfiimbobijlaaDoorKeeps
namespace Go.Proofs.YtcpfiimbobijlaaDoor
open Go Go.RowKit
set_option maxRecDepth 100000

/-- What Wrap leaves: m + 8 bytes in a block of its own, and perhaps spare room. -/
def RWrapped (m : Nat) (A P : Nat → UInt8) (w : World) (e : Ending) (w' : World) : Prop :=
  ∃ g cp, e = .returned (.tuple #[.slice (some ⟨g, 0, none⟩) (8 + m) cp, .int .i64 0]) ∧ w.heap.size ≤ g ∧ PRow w' g 5 (8 + m) (bothF A P) ∧ 8 + m ≤ cp ∧ Below w.heap.size w w'
/-- While it is wrapped: the Cipher; A and the parts, one behind the other. -/
def WST (w0 : World) (gc go m M : Nat) (W : Nat → UInt8) (R : Int) (X : Nat → UInt8) (w' : World) : Prop :=
  Ci w' gc 82 (ciF W M) R ∧ PRow w' go 5 (8 + m) X ∧ Below w0.heap.size w0 w' ∧ w0.heap.size ≤ go ∧ w0.heap.size ≤ gc ∧ gc ≠ go
section
variable {w0 w1 w2 : World} {gc go m M : Nat} {W X : Nat → UInt8} {R : Int}
theorem WST.below (h : WST w0 gc go m M W R X w1) (hb : Below w1.heap.size w1 w2) : WST w0 gc go m M W R X w2 := by
  obtain ⟨h1, h2, h3, h4⟩ := h
  exact ⟨h1.below hb h1.lt, h2.below hb h2.lt, h3.trans (hb.mono h3.size), h4⟩
theorem WST.drew (h : WST w0 gc go m M W R X w1) : WST w0 gc go m M W R X w1.drew := ⟨h.1.drew, h.2.1.drew, h.2.2.1.drew, h.2.2.2⟩
theorem WST.alloc (h : WST w0 gc go m M W R X w1) (o : Obj) : WST w0 gc go m M W R X (w1.alloc o) := ⟨h.1.alloc _, h.2.1.alloc _, h.2.2.1.alloc h.2.2.1.size _, h.2.2.2⟩
theorem WST.setRow (h : WST w0 gc go m M W R X w1) {k : Nat} (h1 : k ≠ gc) (h2 : k ≠ go) (hk : w0.heap.size ≤ k) (cs : Array Value) : WST w0 gc go m M W R X (w1.setRow k cs) :=
  ⟨h.1.setRow_far h1 _, h.2.1.setRow_far h2 _, below_setRow8 h.2.2.1 hk _, h.2.2.2⟩
theorem WST.setCell (h : WST w0 gc go m M W R X w1) {k : Nat} (h1 : k ≠ gc) (h2 : k ≠ go) (hk : w0.heap.size ≤ k) (o : Nat) (u : Value) : WST w0 gc go m M W R X (w1.setCell ⟨k, o, none⟩ u) :=
  ⟨h.1.far (by simp; omega) _, h.2.1.far (by simp; omega) _, h.2.2.1.setCell (by simp; omega) _, h.2.2.2⟩
theorem WST.put (h : WST w0 gc go m M W R X w1) {X' : Nat → UInt8} (cs : Array Value) (hp : PRow (w1.setRow go cs) go 5 (8 + m) X') : WST w0 gc go m M W R X' (w1.setRow go cs) := by
  obtain ⟨h1, h2, h3, h4, h5, h6⟩ := h
  exact ⟨h1.setRow_far (by omega) _, hp, below_setRow8 h3 (by omega) _, h4, h5, h6⟩
theorem WST.congr (h : WST w0 gc go m M W R X w1) {X' : Nat → UInt8} (hc : ∀ i, i < 8 + m → X i = X' i) : WST w0 gc go m M W R X' w1 := ⟨h.1, h.2.1.congr hc, h.2.2⟩
end
theorem Own.made (w : World) (base n : Nat) (h : base ≤ w.heap.size) (hn : n ≤ maxLen) (f : Nat → UInt8) : Own (w.alloc (.cells (row n f) 5)) base (.slice (some ⟨w.heap.size, 0, none⟩) n n) n f := by
  refine ⟨by rw [Array.length_toList, row_size, Nat.mul_one], .inr ⟨w.heap.size, n, row n f, rfl, h, heap_alloc_new w _, Nat.le_refl _, hn, by rw [row_size, Nat.mul_one], ?_⟩⟩
  rw [Nat.mul_one, List.take_of_length_le (by rw [Array.length_toList, row_size]; omega)]
theorem at_eq (s q k m : Nat) (hm : m = 8 * q) (hk : k < q) : (s * q + k) * 8 % m = 8 * k := by
  subst hm
  rw [Nat.mul_comm _ 8, Nat.mul_mod_mul_left, Nat.mul_comm s q, Nat.mul_add_mod, Nat.mod_eq_of_lt hk]

set_option maxHeartbeats 8000000 in
theorem RWrap16 (key W dat : Nat → UInt8) (b off c b1 o1 m c1 : Nat) (w : World) (hkey : ∀ j, j < 16 → w.cell? ⟨b, off + j, none⟩ = some (.int .u8 ((key j).toNat : Int))) (hW : Sched boxF 4 key W)
    (hm1 : 16 ≤ m) (hm2 : m ≤ 128) (hm3 : m % 8 = 0) (hd : Bts w (some ⟨b1, o1, none⟩) m c1 dat) :
    Calls Tryd.prog 19 #[.slice (some ⟨b, off, none⟩) 16 c, .slice (some ⟨b1, o1, none⟩) m c1] w
      (RWrapped m (wrapR (enc boxF 10 W) m (fun _ => 166) dat (6 * (m / 8))).1 (wrapR (enc boxF 10 W) m (fun _ => 166) dat (6 * (m / 8))).2 w) := by
  obtain ⟨q, hq⟩ : ∃ q, q = m / 8 := ⟨_, rfl⟩
  have hmq : m = 8 * q := by omega
  have hq16 : q ≤ 16 := by omega
  have hqi : (m : Int) / 8 = (q : Int) := by omega
  rw [← hq]
  obtain ⟨fA, hfA⟩ : ∃ fA : Nat → Nat → UInt8, fA = fun t => (wrapR (enc boxF 10 W) m (fun _ => 166) dat t).1 := ⟨_, rfl⟩
  obtain ⟨fP, hfP⟩ : ∃ fP : Nat → Nat → UInt8, fP = fun t => (wrapR (enc boxF 10 W) m (fun _ => 166) dat t).2 := ⟨_, rfl⟩
  rw [show (wrapR (enc boxF 10 W) m (fun _ => 166) dat (6 * q)).1 = fA (6 * q) by rw [hfA], show (wrapR (enc boxF 10 W) m (fun _ => 166) dat (6 * q)).2 = fP (6 * q) by rw [hfP]]
  have h0 : bothF (fA 0) (fP 0) = bothF (fun _ => 166) dat := by rw [hfA, hfP]; rfl
  have hstep : ∀ t, fA (t + 1) = countF (enc boxF 10 W (bothF (fA t) fun j => fP t (t * 8 % m + j))) (t + 1) ∧ fP (t + 1) = cpy (t * 8 % m) 8 (fP t) (fun j => enc boxF 10 W (bothF (fA t) fun j => fP t (t * 8 % m + j)) (8 + j)) := fun t => by rw [hfA, hfP]; exact ⟨rfl, rfl⟩
  have H0 := Lib.hid h0
  have HST := Lib.hid hstep
  have HQI := Lib.hid hqi
  have HMQ := Lib.hid hmq
  have hmq1 : 8 * q ≤ m := by omega
  have hmq2 : m ≤ 8 * q := by omega
  clear hfA hfP h0 hstep hqi hq hmq
  have e1 : decide ((m : Int) < 16) = false := decide_eq_false (by omega)
  have e2 : decide (128 < (m : Int)) = false := decide_eq_false (by omega)
  have e3 : ((m : Int) % 8 != 0) = false := by
    have h : (m : Int) % 8 = 0 := by omega
    rw [h]; rfl
  clear hm3
  go_enter Tryd.func19, Tryd.ntmps19
  go_wp2_with (fail)
  refine (New16 key W b off c w hkey hW).mono ?_
  rintro e w1 ⟨gc, rfl, hgc, hci, hb1⟩
  have hgl := hci.lt
  clear hkey hW
  go_upto_region 4 with (fail)
  iterate 7 go_step
  rw [row166]
  refine wpList_app rfl (.tmp 36) (.tmp 37) rfl w1.heap.size _ 8 (fun _ => 166) rfl (Own.made w1 _ 8 (Nat.le_refl _) (by decide) _) (some ⟨b1, o1, none⟩) m c1 dat rfl ((hd.below hb1).alloc _) (by omega) (by simp) fun v1 w2 ho hb2 => ?_
  have hbw := hb2 w.heap.size hb1.size w (hb1.alloc hb1.size _)
  have hbc := hb2 w1.heap.size (Nat.le_refl _) w1 ((Below.refl _ _).alloc (Nat.le_refl _) _)
  obtain ⟨go, cp, rfl, hgo, hp, hcp, hcpm⟩ := ho.prow (by omega)
  have hsz1 := hb1.size
  have hS : WST w gc go m (4 * (4 * 4 + 28)) W (4 + 6) (bothF (fA 0) (fP 0)) w2 := ⟨hci.below hbc hgl, hp.congr fun i _ => by rw [H0.out]; rfl, hbw, by omega, hgc, by omega⟩
  clear hci hbw hbc hb2 ho hp hd hb1
  obtain ⟨M, hM⟩ : ∃ M : Nat, M = (4 * (4 * 4 + 28)) := ⟨_, rfl⟩
  obtain ⟨R, hR⟩ : ∃ R : Int, R = 4 + 6 := ⟨_, rfl⟩
  rw [← hM, ← hR] at hS
  have HM := Lib.hid hM
  have HR := Lib.hid hR
  clear hM hR
  simp only [Act.put, List.setIfInBounds_toArray, List.set_cons_zero, List.set_cons_succ]
  go_wp2_with (fail)
  go_loopw [9, 10, 11, 12, 39] (fun t_ _ _ _ s_ wr => ∃ s tt : Nat, s ≤ 6 ∧ tt = s * q ∧ s_ = .int .i64 s ∧ t_ = .int .u64 (tt : Int) ∧ WST w gc go m M W R (bothF (fA tt) (fP tt)) wr) (fun _ _ _ _ s_ _ => 6 - (intOf s_).toNat)
  case atStart => exact ⟨0, 0, by omega, by omega, rfl, rfl, hS⟩
  case round =>
    obtain ⟨s, t0, hs, ht0, rfl, rfl, hS1⟩ := hrel
    clear hS
    by_cases hls : s < 6
    · have hds : decide ((s : Int) < 6) = true := decide_eq_true (by omega)
      have HT0 := Lib.hid ht0
      clear ht0
      go_wp2_with (fail)
      go_loopw [9, 10, 11, 12] (fun t_ i_ _ _ wr => ∃ k t : Nat, k ≤ q ∧ t = s * q + k ∧ i_ = .int .i64 ((k : Int) + 1) ∧ t_ = .int .u64 (t : Int) ∧ WST w gc go m M W R (bothF (fA t) (fP t)) wr) (fun _ i_ _ _ _ => q + 1 - (intOf i_).toNat)
      case atStart => exact ⟨0, t0, by omega, by have := HT0.out; omega, rfl, rfl, hS1⟩
      case round =>
        obtain ⟨k, t, hk, ht, rfl, rfl, hS⟩ := hrel
        clear hS1
        have hqi := HQI.out
        by_cases hlk : k < q
        · have hdk : decide ((k : Int) + 1 ≤ (q : Int)) = true := decide_eq_true (by omega)
          have hsq : s * q ≤ 5 * q := Nat.mul_le_mul_right q (by omega)
          have ht96 : t < 96 := by omega
          have HAT := Lib.hid (show t * 8 % m = 8 * k by rw [ht]; exact at_eq s q k m HMQ.out hlk)
          have HT := Lib.hid ht
          clear ht hsq
          obtain ⟨x, hx⟩ : ∃ x, x = 8 * (k + 1) := ⟨_, rfl⟩
          have hxm : x + 8 ≤ 8 + m := by omega
          have hx1 : IntKind.i64.wrap (8 * ((k : Int) + 1)) = (x : Int) := by rw [IntWalk.i64_in _ (by omega)]; omega
          have hx2 : IntKind.i64.wrap ((x : Int) + 8) = (x : Int) + 8 := IntWalk.i64_in _ (by omega)
          have HX1 := Lib.hid hx1
          have HX2 := Lib.hid hx2
          have HX := Lib.hid hx
          clear hx1 hx2 hx
          go_upto_region 12 with (fail)
          rw [zero16]
          have hb0 := Row.new wr 23 16 (fun _ => 0)
          have hS2 := hS.alloc (.cells (row 16 fun _ => 0) 23)
          have hgb1 : wr.heap.size ≠ gc := by have := hS.1.lt; omega
          have hgb2 : wr.heap.size ≠ go := by have := hS.2.1.lt; omega
          have hgb3 : w.heap.size ≤ wr.heap.size := hS.2.2.1.size
          clear hS
          revert hS2 hb0
          generalize wr.alloc (.cells (row 16 fun _ => 0) 23) = w4
          generalize wr.heap.size = gb at *
          intro hb0 hS
          obtain ⟨X, hX⟩ : ∃ X, X = bothF (fA t) (fP t) := ⟨_, rfl⟩
          rw [← hX] at hS
          have HXX := Lib.hid hX
          clear hX
          obtain ⟨inp, hinp⟩ : ∃ inp, inp = bothF X fun j => X (x + j) := ⟨_, rfl⟩
          have HINP := Lib.hid hinp
          clear hinp
          clear hqi
          refine region_seq (fun w' => WST w gc go m M W R X w' ∧ Row w' gb 23 16 (fun _ => 0)) mixedOrders (by kernel_rfl) (by simp) ⟨hS.drew, hb0.drew⟩ ?_
          clear hS hb0
          iterate 3
            refine Seq.next ?_ (Sure.val rfl (fun w' hS => ?_)) ?_
            rotate_left 1
            · clear hS
              have a1 : (8 : Int) ≤ (cp : Int) := by omega
              go_simp
              rfl
            simp only [Act.put, List.setIfInBounds_toArray, List.set_cons_zero, List.set_cons_succ]
          refine Seq.copy_Row rfl _ _ 22 22 rfl 5 undB size8 gb 0 16 16 ⟨go, 0, none⟩ 8 cp rfl rfl 23 16 (fun _ => 0) (fun w' hS => hS.2) 8 X (by decide) (fun w' hS j hj => by rw [Addr.add_mid, Nat.zero_add]; exact hS.1.2.1.cell j (by omega)) (by omega) fun w' hS => ?_
          have hS2 := hS.1.setRow (k := gb) hgb1 hgb2 hgb3 (row 16 (cpy 0 8 (fun _ => 0) X))
          have hb1 := hS.2.setRow (cpy 0 8 (fun _ => 0) X)
          clear hS
          revert hS2 hb1
          generalize w'.setRow gb (row 16 (cpy 0 8 (fun _ => 0) X)) = w5
          intro hS hb0
          simp only [Act.put, List.setIfInBounds_toArray, List.set_cons_zero, List.set_cons_succ]
          go_wp2_with (fail)
          refine region_seq (fun w' => WST w gc go m M W R X w' ∧ Row w' gb 23 16 (cpy 0 8 (fun _ => 0) X)) mixedOrders (by kernel_rfl) (by simp) ⟨hS.drew, hb0.drew⟩ ?_
          clear hS hb0
          iterate 8
            refine Seq.next ?_ (Sure.val rfl (fun w' hS => ?_)) ?_
            rotate_left 1
            · clear hS
              have a1 := HX1.out
              have a2 := HX2.out
              have a3 : 0 ≤ (x : Int) := by omega
              have a4 : (x : Int) ≤ (x : Int) + 8 := by omega
              have a5 : (x : Int) + 8 ≤ (cp : Int) := by omega
              have a6 : ((x : Int) + 8).toNat = x + 8 := by omega
              have a7 : 0 ≤ (x : Int) + 8 := by omega
              have a8 : ¬ cp = x := by omega
              go_simp
              rfl
            simp only [Act.put, List.setIfInBounds_toArray, List.set_cons_zero, List.set_cons_succ]
          refine Seq.copy_Row rfl _ _ 22 22 rfl 5 undB size8 gb 8 8 8 ⟨go, x, none⟩ 8 (cp - x) rfl rfl 23 16 (cpy 0 8 (fun _ => 0) X) (fun w' hS => hS.2) 8 (fun j => X (x + j)) (by decide) (fun w' hS j hj => by rw [Addr.add_mid]; exact hS.1.2.1.cell (x + j) (by omega)) (by omega) fun w' hS => ?_
          have hS2 := hS.1.setRow (k := gb) hgb1 hgb2 hgb3 (row 16 (cpy 8 8 (cpy 0 8 (fun _ => 0) X) fun j => X (x + j)))
          have hb1 := (hS.2.setRow (cpy 8 8 (cpy 0 8 (fun _ => 0) X) fun j => X (x + j))).congr (f' := inp) (fun i hi => by rw [HINP.out]; exact both_cpy X (fun j => X (x + j)) i hi)
          clear hS
          revert hS2 hb1
          generalize w'.setRow gb (row 16 (cpy 8 8 (cpy 0 8 (fun _ => 0) X) fun j => X (x + j))) = w6
          intro hS hb0
          simp only [Act.put, List.setIfInBounds_toArray, List.set_cons_zero, List.set_cons_succ]
          try rw [show goInt ((8 : Nat) : Int) = .int .i64 8 from rfl]
          go_wp2_with (refine wpList_load_Row rfl 23 _ rfl gb rfl 23 16 inp _ hb0 und16 size16 ?_)
          have hc := Cipher_enc W inp gc M 10 R w6 (by rw [HR.out]; rfl) (by omega) (by omega) (by have := HM.out; omega) hS.1
          obtain ⟨B, hB⟩ : ∃ B, B = enc boxF 10 W inp := ⟨_, rfl⟩
          rw [← hB] at hc
          have HB := Lib.hid hB
          clear hB
          refine hc.mono ?_
          rintro e w7 ⟨rfl, hb7⟩
          have hS2 := hS.below hb7
          have hb2 := hb0.below hb7 hb0.lt
          clear hS hb0 hb7 hc
          go_upto_region 15 with (refine wpList_store_Row rfl 23 _ _ rfl gb rfl 23 16 inp _ rfl hb2 size16 ?_)
          have hS := hS2.setRow (k := gb) hgb1 hgb2 hgb3 (row 16 B)
          have hb0 := hb2.setRow B
          clear hS2 hb2
          revert hS hb0
          generalize w7.setRow gb (row 16 B) = w8
          intro hS hb0
          go_wp2_with (fail)
          obtain ⟨tt, htt⟩ : ∃ tt, tt = t + 1 := ⟨_, rfl⟩
          rw [show ((t : Int) + 1) = (tt : Int) by omega]
          have htt2 : tt ≤ 96 := by omega
          have HTT := Lib.hid htt
          clear htt
          go_loopw [12, 66] (fun _ k_ wr => ∃ kk : Nat, kk ≤ 8 ∧ k_ = .int .i64 kk ∧ WST w gc go m M W R X wr ∧ Row wr gb 23 16 (upto kk (countF B tt) B)) (fun _ k_ _ => 8 - (intOf k_).toNat)
          case atStart => exact ⟨0, by omega, rfl, hS, by rw [upto_zero]; exact hb0⟩
          case round =>
            obtain ⟨kk, hkk, rfl, hS2, hb2⟩ := hrel
            clear hS hb0
            by_cases hlk : kk < 8
            · obtain ⟨z, hz⟩ : ∃ z, z = 8 * kk := ⟨_, rfl⟩
              obtain ⟨y, hy⟩ : ∃ y, y = 56 - 8 * kk := ⟨_, rfl⟩
              have z1 : IntKind.i64.wrap (8 * (kk : Int)) = (z : Int) := by rw [IntWalk.i64_in _ (by omega)]; omega
              have z2 : IntKind.i64.wrap (56 - (z : Int)) = (y : Int) := by rw [IntWalk.i64_in _ (by omega)]; omega
              have z3 : (tt : Int) / 2 ^ y = ((cnt tt kk).toNat : Int) := by rw [hy]; exact cnt_int tt kk (by omega) hlk
              have z4 := cnt_wrap tt kk
              have hy64 : y ≤ 56 := by omega
              have Z1 := Lib.hid z1
              have Z2 := Lib.hid z2
              have Z3 := Lib.hid z3
              have Z4 := Lib.hid z4
              clear z1 z2 z3 z4 hz hy
              go_wp2
              refine region_seq (fun w' => WST w gc go m M W R X w' ∧ Row w' gb 23 16 (upto kk (countF B tt) B)) mixedOrders (by kernel_rfl) (by simp) ⟨hS2.drew, hb2.drew⟩ ?_
              clear hS2 hb2
              iterate 12
                refine Seq.next ?_ (Sure.val rfl (fun w' hS => ?_)) ?_
                rotate_left 1
                · have c1 := hS.2.cell kk (by omega)
                  rw [upto_at] at c1
                  clear hS
                  have z1 := Z1.out
                  have z2 := Z2.out
                  have z3 := Z3.out
                  have z4 := Z4.out
                  have a1 : 0 ≤ (y : Int) := by omega
                  have a2 : (y : Int) ≤ 64 := by omega
                  have a3 : (kk : Int) < 16 := by omega
                  go_simp
                  rfl
                simp only [Act.put, List.setIfInBounds_toArray, List.set_cons_zero, List.set_cons_succ, xor8]
              refine Seq.last rfl fun w' hS => ?_
              have c1 := hS.2.cell kk (by omega)
              have c3 := hS.2.frozen kk
              go_simp
              clear c1 c3
              rw [show xr (B kk) (cnt tt kk) = countF B tt kk from cnt_xr B tt kk]
              have hS3 := hS.1.setCell (k := gb) hgb1 hgb2 hgb3 kk (.int .u8 ((countF B tt kk).toNat : Int))
              have hb3 : Row (w'.setCell ⟨gb, kk, none⟩ (.int .u8 ((countF B tt kk).toNat : Int))) gb 23 16 (upto (kk + 1) (countF B tt) B) := by rw [← upto_succ]; exact hS.2.set_ kk (countF B tt kk)
              clear hS
              revert hS3 hb3
              generalize w'.setCell ⟨gb, kk, none⟩ (.int .u8 ((countF B tt kk).toNat : Int)) = w7
              intro hS3 hb3
              go_wp2
              go_roundw
              case rel => exact ⟨kk + 1, by omega, by go_num, hS3, hb3⟩
              case measure => simp [intOf]; omega
            · obtain rfl : kk = 8 := by omega
              rw [show ((8 : Nat) : Int) = 8 from rfl]
              have hb4 : Row wr gb 23 16 (countF B tt) := hb2.congr fun i hi => by
                show (if i < 8 then countF B tt i else B i) = countF B tt i
                by_cases h : i < 8
                · rw [if_pos h]
                · rw [if_neg h]; unfold countF; rw [if_neg (by omega)]
              clear hb2 hkk hlk
              have hS := hS2
              have hb0 := hb4
              clear hS2 hb4
              obtain ⟨C, hC⟩ : ∃ C, C = countF B tt := ⟨_, rfl⟩
              rw [← hC] at hb0
              have HC := Lib.hid hC
              clear hC
              go_wp2_with (fail)
              refine region_seq (fun w' => WST w gc go m M W R X w' ∧ Row w' gb 23 16 C) mixedOrders (by kernel_rfl) (by simp) ⟨hS.drew, hb0.drew⟩ ?_
              clear hS hb0
              iterate 3
                refine Seq.next ?_ (Sure.val rfl (fun w' hS => ?_)) ?_
                rotate_left 1
                · clear hS
                  have a1 : (8 : Int) ≤ (cp : Int) := by omega
                  go_simp
                  rfl
                simp only [Act.put, List.setIfInBounds_toArray, List.set_cons_zero, List.set_cons_succ]
              refine Seq.copy_P rfl _ _ 22 22 rfl 5 undB size8 go 0 8 cp ⟨gb, 0, none⟩ 8 16 rfl rfl 5 (8 + m) X (fun w' hS => hS.1.2.1) 8 C (by decide) (fun w' hS j hj => by rw [Addr.add_mid, Nat.zero_add]; exact hS.2.cell j (by omega)) (by omega) fun w' hS cs hp => ?_
              have hS2 := hS.1.put cs hp
              have hb1 := hS.2.setRow_far (k := go) (by omega) cs
              clear hS hp
              revert hS2 hb1
              generalize w'.setRow go cs = w8
              intro hS hb0
              simp only [Act.put, List.setIfInBounds_toArray, List.set_cons_zero, List.set_cons_succ]
              go_wp2_with (fail)
              refine region_seq (fun w' => WST w gc go m M W R (cpy 0 8 X C) w' ∧ Row w' gb 23 16 C) mixedOrders (by kernel_rfl) (by simp) ⟨hS.drew, hb0.drew⟩ ?_
              clear hS hb0
              iterate 5
                refine Seq.next ?_ (Sure.val rfl (fun w' hS => ?_)) ?_
                rotate_left 1
                · clear hS
                  have a1 := HX1.out
                  have a3 : 0 ≤ (x : Int) := by omega
                  have a4 : (x : Int) ≤ 8 + (m : Int) := by omega
                  have a5 : (x : Int) ≤ (cp : Int) := by omega
                  have a8 : ¬ cp = x := by omega
                  go_simp
                  rfl
                simp only [Act.put, List.setIfInBounds_toArray, List.set_cons_zero, List.set_cons_succ]
              refine Seq.copy_P rfl _ _ 22 22 rfl 5 undB size8 go x (8 + m - x) (cp - x) ⟨gb, 8, none⟩ 8 8 rfl rfl 5 (8 + m) (cpy 0 8 X C) (fun w' hS => hS.1.2.1) 8 (fun j => C (8 + j)) (by have : Nat.min 8 (8 + m - x) = 8 := Nat.min_eq_left (by omega); omega) (fun w' hS j hj => by rw [Addr.add_mid]; exact hS.2.cell (8 + j) (by omega)) (by omega) fun w' hS cs hp => ?_
              have hS2 := hS.1.put cs hp
              clear hS hp
              revert hS2
              generalize w'.setRow go cs = w9
              intro hS
              simp only [Act.put, List.setIfInBounds_toArray, List.set_cons_zero, List.set_cons_succ]
              try rw [show goInt ((8 : Nat) : Int) = .int .i64 8 from rfl]
              have hfin := hS.congr (X' := bothF (fA tt) (fP tt)) fun i _ => by
                have h1 := HST.out t
                rw [HAT.out] at h1
                have h2 : inp = bothF (fA t) fun j => fP t (8 * k + j) := by
                  rw [HINP.out, HXX.out]
                  funext j
                  show (if j < 8 then (if j < 8 then fA t j else fP t (j - 8)) else (if x + (j - 8) < 8 then fA t (x + (j - 8)) else fP t (x + (j - 8) - 8))) = (if j < 8 then fA t j else fP t (8 * k + (j - 8)))
                  by_cases hj : j < 8
                  · rw [if_pos hj, if_pos hj, if_pos hj]
                  · rw [if_neg hj, if_neg hj, if_neg (by have := HX.out; omega), show x + (j - 8) - 8 = 8 * k + (j - 8) by have := HX.out; omega]
                rw [← h2, ← HB.out] at h1
                rw [HTT.out, h1.1, h1.2, HXX.out]
                rw [show x = 8 + 8 * k by have := HX.out; omega]
                have h3 : (fun j => C (8 + j)) = fun j => B (8 + j) := by
                  rw [HC.out]; funext j; unfold countF; rw [if_neg (by omega)]
                rw [h3, wrap_step C B (fA t) (fP t) (8 * k) i, HC.out, HTT.out]
              have HFIN := Lib.hid hfin
              clear hS hfin hdk
              go_wp2_with (fail)
              go_roundw
              case rel => exact ⟨k + 1, tt, by omega, by have := HTT.out; have := HT.out; omega, by go_num, rfl, HFIN.out⟩
              case measure => simp [intOf]; omega
        · obtain rfl : k = q := by omega
          have hdk : decide ((k : Int) + 1 ≤ (k : Int)) = false := decide_eq_false (by omega)
          have HT := Lib.hid ht
          clear ht
          go_wp2
          go_roundw
          case rel => exact ⟨s + 1, t, by omega, by rw [HT.out, Nat.succ_mul], by go_num, rfl, hS⟩
          case measure => simp [intOf]; omega
    · obtain rfl : s = 6 := by omega
      have h6 : t0 = 6 * q := ht0
      subst h6
      clear hls
      go_wp2
      go_ret2
      exact ⟨go, cp, rfl, by omega, hS1.2.1, hcp, hS1.2.2.1⟩

set_option maxHeartbeats 8000000 in
theorem RWrap32 (key W dat : Nat → UInt8) (b off c b1 o1 m c1 : Nat) (w : World) (hkey : ∀ j, j < 32 → w.cell? ⟨b, off + j, none⟩ = some (.int .u8 ((key j).toNat : Int))) (hW : Sched boxF 8 key W)
    (hm1 : 16 ≤ m) (hm2 : m ≤ 128) (hm3 : m % 8 = 0) (hd : Bts w (some ⟨b1, o1, none⟩) m c1 dat) :
    Calls Tryd.prog 19 #[.slice (some ⟨b, off, none⟩) 32 c, .slice (some ⟨b1, o1, none⟩) m c1] w
      (RWrapped m (wrapR (enc boxF 14 W) m (fun _ => 166) dat (6 * (m / 8))).1 (wrapR (enc boxF 14 W) m (fun _ => 166) dat (6 * (m / 8))).2 w) := by
  obtain ⟨q, hq⟩ : ∃ q, q = m / 8 := ⟨_, rfl⟩
  have hmq : m = 8 * q := by omega
  have hq16 : q ≤ 16 := by omega
  have hqi : (m : Int) / 8 = (q : Int) := by omega
  rw [← hq]
  obtain ⟨fA, hfA⟩ : ∃ fA : Nat → Nat → UInt8, fA = fun t => (wrapR (enc boxF 14 W) m (fun _ => 166) dat t).1 := ⟨_, rfl⟩
  obtain ⟨fP, hfP⟩ : ∃ fP : Nat → Nat → UInt8, fP = fun t => (wrapR (enc boxF 14 W) m (fun _ => 166) dat t).2 := ⟨_, rfl⟩
  rw [show (wrapR (enc boxF 14 W) m (fun _ => 166) dat (6 * q)).1 = fA (6 * q) by rw [hfA], show (wrapR (enc boxF 14 W) m (fun _ => 166) dat (6 * q)).2 = fP (6 * q) by rw [hfP]]
  have h0 : bothF (fA 0) (fP 0) = bothF (fun _ => 166) dat := by rw [hfA, hfP]; rfl
  have hstep : ∀ t, fA (t + 1) = countF (enc boxF 14 W (bothF (fA t) fun j => fP t (t * 8 % m + j))) (t + 1) ∧ fP (t + 1) = cpy (t * 8 % m) 8 (fP t) (fun j => enc boxF 14 W (bothF (fA t) fun j => fP t (t * 8 % m + j)) (8 + j)) := fun t => by rw [hfA, hfP]; exact ⟨rfl, rfl⟩
  have H0 := Lib.hid h0
  have HST := Lib.hid hstep
  have HQI := Lib.hid hqi
  have HMQ := Lib.hid hmq
  have hmq1 : 8 * q ≤ m := by omega
  have hmq2 : m ≤ 8 * q := by omega
  clear hfA hfP h0 hstep hqi hq hmq
  have e1 : decide ((m : Int) < 16) = false := decide_eq_false (by omega)
  have e2 : decide (128 < (m : Int)) = false := decide_eq_false (by omega)
  have e3 : ((m : Int) % 8 != 0) = false := by
    have h : (m : Int) % 8 = 0 := by omega
    rw [h]; rfl
  clear hm3
  go_enter Tryd.func19, Tryd.ntmps19
  go_wp2_with (fail)
  refine (New32 key W b off c w hkey hW).mono ?_
  rintro e w1 ⟨gc, rfl, hgc, hci, hb1⟩
  have hgl := hci.lt
  clear hkey hW
  go_upto_region 4 with (fail)
  iterate 7 go_step
  rw [row166]
  refine wpList_app rfl (.tmp 36) (.tmp 37) rfl w1.heap.size _ 8 (fun _ => 166) rfl (Own.made w1 _ 8 (Nat.le_refl _) (by decide) _) (some ⟨b1, o1, none⟩) m c1 dat rfl ((hd.below hb1).alloc _) (by omega) (by simp) fun v1 w2 ho hb2 => ?_
  have hbw := hb2 w.heap.size hb1.size w (hb1.alloc hb1.size _)
  have hbc := hb2 w1.heap.size (Nat.le_refl _) w1 ((Below.refl _ _).alloc (Nat.le_refl _) _)
  obtain ⟨go, cp, rfl, hgo, hp, hcp, hcpm⟩ := ho.prow (by omega)
  have hsz1 := hb1.size
  have hS : WST w gc go m (4 * (4 * 8 + 28)) W (8 + 6) (bothF (fA 0) (fP 0)) w2 := ⟨hci.below hbc hgl, hp.congr fun i _ => by rw [H0.out]; rfl, hbw, by omega, hgc, by omega⟩
  clear hci hbw hbc hb2 ho hp hd hb1
  obtain ⟨M, hM⟩ : ∃ M : Nat, M = (4 * (4 * 8 + 28)) := ⟨_, rfl⟩
  obtain ⟨R, hR⟩ : ∃ R : Int, R = 8 + 6 := ⟨_, rfl⟩
  rw [← hM, ← hR] at hS
  have HM := Lib.hid hM
  have HR := Lib.hid hR
  clear hM hR
  simp only [Act.put, List.setIfInBounds_toArray, List.set_cons_zero, List.set_cons_succ]
  go_wp2_with (fail)
  go_loopw [9, 10, 11, 12, 39] (fun t_ _ _ _ s_ wr => ∃ s tt : Nat, s ≤ 6 ∧ tt = s * q ∧ s_ = .int .i64 s ∧ t_ = .int .u64 (tt : Int) ∧ WST w gc go m M W R (bothF (fA tt) (fP tt)) wr) (fun _ _ _ _ s_ _ => 6 - (intOf s_).toNat)
  case atStart => exact ⟨0, 0, by omega, by omega, rfl, rfl, hS⟩
  case round =>
    obtain ⟨s, t0, hs, ht0, rfl, rfl, hS1⟩ := hrel
    clear hS
    by_cases hls : s < 6
    · have hds : decide ((s : Int) < 6) = true := decide_eq_true (by omega)
      have HT0 := Lib.hid ht0
      clear ht0
      go_wp2_with (fail)
      go_loopw [9, 10, 11, 12] (fun t_ i_ _ _ wr => ∃ k t : Nat, k ≤ q ∧ t = s * q + k ∧ i_ = .int .i64 ((k : Int) + 1) ∧ t_ = .int .u64 (t : Int) ∧ WST w gc go m M W R (bothF (fA t) (fP t)) wr) (fun _ i_ _ _ _ => q + 1 - (intOf i_).toNat)
      case atStart => exact ⟨0, t0, by omega, by have := HT0.out; omega, rfl, rfl, hS1⟩
      case round =>
        obtain ⟨k, t, hk, ht, rfl, rfl, hS⟩ := hrel
        clear hS1
        have hqi := HQI.out
        by_cases hlk : k < q
        · have hdk : decide ((k : Int) + 1 ≤ (q : Int)) = true := decide_eq_true (by omega)
          have hsq : s * q ≤ 5 * q := Nat.mul_le_mul_right q (by omega)
          have ht96 : t < 96 := by omega
          have HAT := Lib.hid (show t * 8 % m = 8 * k by rw [ht]; exact at_eq s q k m HMQ.out hlk)
          have HT := Lib.hid ht
          clear ht hsq
          obtain ⟨x, hx⟩ : ∃ x, x = 8 * (k + 1) := ⟨_, rfl⟩
          have hxm : x + 8 ≤ 8 + m := by omega
          have hx1 : IntKind.i64.wrap (8 * ((k : Int) + 1)) = (x : Int) := by rw [IntWalk.i64_in _ (by omega)]; omega
          have hx2 : IntKind.i64.wrap ((x : Int) + 8) = (x : Int) + 8 := IntWalk.i64_in _ (by omega)
          have HX1 := Lib.hid hx1
          have HX2 := Lib.hid hx2
          have HX := Lib.hid hx
          clear hx1 hx2 hx
          go_upto_region 12 with (fail)
          rw [zero16]
          have hb0 := Row.new wr 23 16 (fun _ => 0)
          have hS2 := hS.alloc (.cells (row 16 fun _ => 0) 23)
          have hgb1 : wr.heap.size ≠ gc := by have := hS.1.lt; omega
          have hgb2 : wr.heap.size ≠ go := by have := hS.2.1.lt; omega
          have hgb3 : w.heap.size ≤ wr.heap.size := hS.2.2.1.size
          clear hS
          revert hS2 hb0
          generalize wr.alloc (.cells (row 16 fun _ => 0) 23) = w4
          generalize wr.heap.size = gb at *
          intro hb0 hS
          obtain ⟨X, hX⟩ : ∃ X, X = bothF (fA t) (fP t) := ⟨_, rfl⟩
          rw [← hX] at hS
          have HXX := Lib.hid hX
          clear hX
          obtain ⟨inp, hinp⟩ : ∃ inp, inp = bothF X fun j => X (x + j) := ⟨_, rfl⟩
          have HINP := Lib.hid hinp
          clear hinp
          clear hqi
          refine region_seq (fun w' => WST w gc go m M W R X w' ∧ Row w' gb 23 16 (fun _ => 0)) mixedOrders (by kernel_rfl) (by simp) ⟨hS.drew, hb0.drew⟩ ?_
          clear hS hb0
          iterate 3
            refine Seq.next ?_ (Sure.val rfl (fun w' hS => ?_)) ?_
            rotate_left 1
            · clear hS
              have a1 : (8 : Int) ≤ (cp : Int) := by omega
              go_simp
              rfl
            simp only [Act.put, List.setIfInBounds_toArray, List.set_cons_zero, List.set_cons_succ]
          refine Seq.copy_Row rfl _ _ 22 22 rfl 5 undB size8 gb 0 16 16 ⟨go, 0, none⟩ 8 cp rfl rfl 23 16 (fun _ => 0) (fun w' hS => hS.2) 8 X (by decide) (fun w' hS j hj => by rw [Addr.add_mid, Nat.zero_add]; exact hS.1.2.1.cell j (by omega)) (by omega) fun w' hS => ?_
          have hS2 := hS.1.setRow (k := gb) hgb1 hgb2 hgb3 (row 16 (cpy 0 8 (fun _ => 0) X))
          have hb1 := hS.2.setRow (cpy 0 8 (fun _ => 0) X)
          clear hS
          revert hS2 hb1
          generalize w'.setRow gb (row 16 (cpy 0 8 (fun _ => 0) X)) = w5
          intro hS hb0
          simp only [Act.put, List.setIfInBounds_toArray, List.set_cons_zero, List.set_cons_succ]
          go_wp2_with (fail)
          refine region_seq (fun w' => WST w gc go m M W R X w' ∧ Row w' gb 23 16 (cpy 0 8 (fun _ => 0) X)) mixedOrders (by kernel_rfl) (by simp) ⟨hS.drew, hb0.drew⟩ ?_
          clear hS hb0
          iterate 8
            refine Seq.next ?_ (Sure.val rfl (fun w' hS => ?_)) ?_
            rotate_left 1
            · clear hS
              have a1 := HX1.out
              have a2 := HX2.out
              have a3 : 0 ≤ (x : Int) := by omega
              have a4 : (x : Int) ≤ (x : Int) + 8 := by omega
              have a5 : (x : Int) + 8 ≤ (cp : Int) := by omega
              have a6 : ((x : Int) + 8).toNat = x + 8 := by omega
              have a7 : 0 ≤ (x : Int) + 8 := by omega
              have a8 : ¬ cp = x := by omega
              go_simp
              rfl
            simp only [Act.put, List.setIfInBounds_toArray, List.set_cons_zero, List.set_cons_succ]
          refine Seq.copy_Row rfl _ _ 22 22 rfl 5 undB size8 gb 8 8 8 ⟨go, x, none⟩ 8 (cp - x) rfl rfl 23 16 (cpy 0 8 (fun _ => 0) X) (fun w' hS => hS.2) 8 (fun j => X (x + j)) (by decide) (fun w' hS j hj => by rw [Addr.add_mid]; exact hS.1.2.1.cell (x + j) (by omega)) (by omega) fun w' hS => ?_
          have hS2 := hS.1.setRow (k := gb) hgb1 hgb2 hgb3 (row 16 (cpy 8 8 (cpy 0 8 (fun _ => 0) X) fun j => X (x + j)))
          have hb1 := (hS.2.setRow (cpy 8 8 (cpy 0 8 (fun _ => 0) X) fun j => X (x + j))).congr (f' := inp) (fun i hi => by rw [HINP.out]; exact both_cpy X (fun j => X (x + j)) i hi)
          clear hS
          revert hS2 hb1
          generalize w'.setRow gb (row 16 (cpy 8 8 (cpy 0 8 (fun _ => 0) X) fun j => X (x + j))) = w6
          intro hS hb0
          simp only [Act.put, List.setIfInBounds_toArray, List.set_cons_zero, List.set_cons_succ]
          try rw [show goInt ((8 : Nat) : Int) = .int .i64 8 from rfl]
          go_wp2_with (refine wpList_load_Row rfl 23 _ rfl gb rfl 23 16 inp _ hb0 und16 size16 ?_)
          have hc := Cipher_enc W inp gc M 14 R w6 (by rw [HR.out]; rfl) (by omega) (by omega) (by have := HM.out; omega) hS.1
          obtain ⟨B, hB⟩ : ∃ B, B = enc boxF 14 W inp := ⟨_, rfl⟩
          rw [← hB] at hc
          have HB := Lib.hid hB
          clear hB
          refine hc.mono ?_
          rintro e w7 ⟨rfl, hb7⟩
          have hS2 := hS.below hb7
          have hb2 := hb0.below hb7 hb0.lt
          clear hS hb0 hb7 hc
          go_upto_region 15 with (refine wpList_store_Row rfl 23 _ _ rfl gb rfl 23 16 inp _ rfl hb2 size16 ?_)
          have hS := hS2.setRow (k := gb) hgb1 hgb2 hgb3 (row 16 B)
          have hb0 := hb2.setRow B
          clear hS2 hb2
          revert hS hb0
          generalize w7.setRow gb (row 16 B) = w8
          intro hS hb0
          go_wp2_with (fail)
          obtain ⟨tt, htt⟩ : ∃ tt, tt = t + 1 := ⟨_, rfl⟩
          rw [show ((t : Int) + 1) = (tt : Int) by omega]
          have htt2 : tt ≤ 96 := by omega
          have HTT := Lib.hid htt
          clear htt
          go_loopw [12, 66] (fun _ k_ wr => ∃ kk : Nat, kk ≤ 8 ∧ k_ = .int .i64 kk ∧ WST w gc go m M W R X wr ∧ Row wr gb 23 16 (upto kk (countF B tt) B)) (fun _ k_ _ => 8 - (intOf k_).toNat)
          case atStart => exact ⟨0, by omega, rfl, hS, by rw [upto_zero]; exact hb0⟩
          case round =>
            obtain ⟨kk, hkk, rfl, hS2, hb2⟩ := hrel
            clear hS hb0
            by_cases hlk : kk < 8
            · obtain ⟨z, hz⟩ : ∃ z, z = 8 * kk := ⟨_, rfl⟩
              obtain ⟨y, hy⟩ : ∃ y, y = 56 - 8 * kk := ⟨_, rfl⟩
              have z1 : IntKind.i64.wrap (8 * (kk : Int)) = (z : Int) := by rw [IntWalk.i64_in _ (by omega)]; omega
              have z2 : IntKind.i64.wrap (56 - (z : Int)) = (y : Int) := by rw [IntWalk.i64_in _ (by omega)]; omega
              have z3 : (tt : Int) / 2 ^ y = ((cnt tt kk).toNat : Int) := by rw [hy]; exact cnt_int tt kk (by omega) hlk
              have z4 := cnt_wrap tt kk
              have hy64 : y ≤ 56 := by omega
              have Z1 := Lib.hid z1
              have Z2 := Lib.hid z2
              have Z3 := Lib.hid z3
              have Z4 := Lib.hid z4
              clear z1 z2 z3 z4 hz hy
              go_wp2
              refine region_seq (fun w' => WST w gc go m M W R X w' ∧ Row w' gb 23 16 (upto kk (countF B tt) B)) mixedOrders (by kernel_rfl) (by simp) ⟨hS2.drew, hb2.drew⟩ ?_
              clear hS2 hb2
              iterate 12
                refine Seq.next ?_ (Sure.val rfl (fun w' hS => ?_)) ?_
                rotate_left 1
                · have c1 := hS.2.cell kk (by omega)
                  rw [upto_at] at c1
                  clear hS
                  have z1 := Z1.out
                  have z2 := Z2.out
                  have z3 := Z3.out
                  have z4 := Z4.out
                  have a1 : 0 ≤ (y : Int) := by omega
                  have a2 : (y : Int) ≤ 64 := by omega
                  have a3 : (kk : Int) < 16 := by omega
                  go_simp
                  rfl
                simp only [Act.put, List.setIfInBounds_toArray, List.set_cons_zero, List.set_cons_succ, xor8]
              refine Seq.last rfl fun w' hS => ?_
              have c1 := hS.2.cell kk (by omega)
              have c3 := hS.2.frozen kk
              go_simp
              clear c1 c3
              rw [show xr (B kk) (cnt tt kk) = countF B tt kk from cnt_xr B tt kk]
              have hS3 := hS.1.setCell (k := gb) hgb1 hgb2 hgb3 kk (.int .u8 ((countF B tt kk).toNat : Int))
              have hb3 : Row (w'.setCell ⟨gb, kk, none⟩ (.int .u8 ((countF B tt kk).toNat : Int))) gb 23 16 (upto (kk + 1) (countF B tt) B) := by rw [← upto_succ]; exact hS.2.set_ kk (countF B tt kk)
              clear hS
              revert hS3 hb3
              generalize w'.setCell ⟨gb, kk, none⟩ (.int .u8 ((countF B tt kk).toNat : Int)) = w7
              intro hS3 hb3
              go_wp2
              go_roundw
              case rel => exact ⟨kk + 1, by omega, by go_num, hS3, hb3⟩
              case measure => simp [intOf]; omega
            · obtain rfl : kk = 8 := by omega
              rw [show ((8 : Nat) : Int) = 8 from rfl]
              have hb4 : Row wr gb 23 16 (countF B tt) := hb2.congr fun i hi => by
                show (if i < 8 then countF B tt i else B i) = countF B tt i
                by_cases h : i < 8
                · rw [if_pos h]
                · rw [if_neg h]; unfold countF; rw [if_neg (by omega)]
              clear hb2 hkk hlk
              have hS := hS2
              have hb0 := hb4
              clear hS2 hb4
              obtain ⟨C, hC⟩ : ∃ C, C = countF B tt := ⟨_, rfl⟩
              rw [← hC] at hb0
              have HC := Lib.hid hC
              clear hC
              go_wp2_with (fail)
              refine region_seq (fun w' => WST w gc go m M W R X w' ∧ Row w' gb 23 16 C) mixedOrders (by kernel_rfl) (by simp) ⟨hS.drew, hb0.drew⟩ ?_
              clear hS hb0
              iterate 3
                refine Seq.next ?_ (Sure.val rfl (fun w' hS => ?_)) ?_
                rotate_left 1
                · clear hS
                  have a1 : (8 : Int) ≤ (cp : Int) := by omega
                  go_simp
                  rfl
                simp only [Act.put, List.setIfInBounds_toArray, List.set_cons_zero, List.set_cons_succ]
              refine Seq.copy_P rfl _ _ 22 22 rfl 5 undB size8 go 0 8 cp ⟨gb, 0, none⟩ 8 16 rfl rfl 5 (8 + m) X (fun w' hS => hS.1.2.1) 8 C (by decide) (fun w' hS j hj => by rw [Addr.add_mid, Nat.zero_add]; exact hS.2.cell j (by omega)) (by omega) fun w' hS cs hp => ?_
              have hS2 := hS.1.put cs hp
              have hb1 := hS.2.setRow_far (k := go) (by omega) cs
              clear hS hp
              revert hS2 hb1
              generalize w'.setRow go cs = w8
              intro hS hb0
              simp only [Act.put, List.setIfInBounds_toArray, List.set_cons_zero, List.set_cons_succ]
              go_wp2_with (fail)
              refine region_seq (fun w' => WST w gc go m M W R (cpy 0 8 X C) w' ∧ Row w' gb 23 16 C) mixedOrders (by kernel_rfl) (by simp) ⟨hS.drew, hb0.drew⟩ ?_
              clear hS hb0
              iterate 5
                refine Seq.next ?_ (Sure.val rfl (fun w' hS => ?_)) ?_
                rotate_left 1
                · clear hS
                  have a1 := HX1.out
                  have a3 : 0 ≤ (x : Int) := by omega
                  have a4 : (x : Int) ≤ 8 + (m : Int) := by omega
                  have a5 : (x : Int) ≤ (cp : Int) := by omega
                  have a8 : ¬ cp = x := by omega
                  go_simp
                  rfl
                simp only [Act.put, List.setIfInBounds_toArray, List.set_cons_zero, List.set_cons_succ]
              refine Seq.copy_P rfl _ _ 22 22 rfl 5 undB size8 go x (8 + m - x) (cp - x) ⟨gb, 8, none⟩ 8 8 rfl rfl 5 (8 + m) (cpy 0 8 X C) (fun w' hS => hS.1.2.1) 8 (fun j => C (8 + j)) (by have : Nat.min 8 (8 + m - x) = 8 := Nat.min_eq_left (by omega); omega) (fun w' hS j hj => by rw [Addr.add_mid]; exact hS.2.cell (8 + j) (by omega)) (by omega) fun w' hS cs hp => ?_
              have hS2 := hS.1.put cs hp
              clear hS hp
              revert hS2
              generalize w'.setRow go cs = w9
              intro hS
              simp only [Act.put, List.setIfInBounds_toArray, List.set_cons_zero, List.set_cons_succ]
              try rw [show goInt ((8 : Nat) : Int) = .int .i64 8 from rfl]
              have hfin := hS.congr (X' := bothF (fA tt) (fP tt)) fun i _ => by
                have h1 := HST.out t
                rw [HAT.out] at h1
                have h2 : inp = bothF (fA t) fun j => fP t (8 * k + j) := by
                  rw [HINP.out, HXX.out]
                  funext j
                  show (if j < 8 then (if j < 8 then fA t j else fP t (j - 8)) else (if x + (j - 8) < 8 then fA t (x + (j - 8)) else fP t (x + (j - 8) - 8))) = (if j < 8 then fA t j else fP t (8 * k + (j - 8)))
                  by_cases hj : j < 8
                  · rw [if_pos hj, if_pos hj, if_pos hj]
                  · rw [if_neg hj, if_neg hj, if_neg (by have := HX.out; omega), show x + (j - 8) - 8 = 8 * k + (j - 8) by have := HX.out; omega]
                rw [← h2, ← HB.out] at h1
                rw [HTT.out, h1.1, h1.2, HXX.out]
                rw [show x = 8 + 8 * k by have := HX.out; omega]
                have h3 : (fun j => C (8 + j)) = fun j => B (8 + j) := by
                  rw [HC.out]; funext j; unfold countF; rw [if_neg (by omega)]
                rw [h3, wrap_step C B (fA t) (fP t) (8 * k) i, HC.out, HTT.out]
              have HFIN := Lib.hid hfin
              clear hS hfin hdk
              go_wp2_with (fail)
              go_roundw
              case rel => exact ⟨k + 1, tt, by omega, by have := HTT.out; have := HT.out; omega, by go_num, rfl, HFIN.out⟩
              case measure => simp [intOf]; omega
        · obtain rfl : k = q := by omega
          have hdk : decide ((k : Int) + 1 ≤ (k : Int)) = false := decide_eq_false (by omega)
          have HT := Lib.hid ht
          clear ht
          go_wp2
          go_roundw
          case rel => exact ⟨s + 1, t, by omega, by rw [HT.out, Nat.succ_mul], by go_num, rfl, hS⟩
          case measure => simp [intOf]; omega
    · obtain rfl : s = 6 := by omega
      have h6 : t0 = 6 * q := ht0
      subst h6
      clear hls
      go_wp2
      go_ret2
      exact ⟨go, cp, rfl, by omega, hS1.2.1, hcp, hS1.2.2.1⟩

end Go.Proofs.YtcpfiimbobijlaaDoor
