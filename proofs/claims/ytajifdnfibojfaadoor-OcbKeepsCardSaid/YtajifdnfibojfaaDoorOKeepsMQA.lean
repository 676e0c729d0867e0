/- A key as what it can do: whatever its length, and in every later world. The leaves of ocb: Ktop stretched, the offset cut out of it. Masks as cells; a block encrypted and decrypted by them. math/bits.TrailingZeros64 and TrailingZeros of a number that is not 0: the library's own text, walked. step: L(ntz(i)), by doublings. newMasks: a key's masks. firstOffset: the first offset of a nonce. -/
import Derived.Test.YtajifdnfibojfaaDoorBytes
import Derived.Test.YtajifdnfibojfaaDoorRDec
import Derived.Test.YtajifdnfibojfaaDoorRNew
import Derived.Test.YtajifdnfibojfaaDoorRNewB
import Derived.Test.YtajifdnfibojfaaDoorOLeaf
import Derived.Test.YtajifdnfibojfaaDoorBlk
import Derived.Shelf.Spec.TrailingZeros
namespace Go.Proofs.YtajifdnfibojfaaDoor
open Go Go.RowKit
set_option maxRecDepth 100000

/-- By this slice Encrypt answers E, and Decrypt D, from now on. -/
def Cap (A : Option Addr) (n c : Nat) (E D : (Nat → UInt8) → Nat → UInt8) (w : World) : Prop :=
  (∀ w', Below w.heap.size w w' → ∀ x : Nat → UInt8, Calls Tryd.prog 28 #[.slice A n c, .agg (row 16 x)] w' fun e w'' => e = .returned (.tuple #[.agg (row 16 (E x)), .int .i64 0]) ∧ Below w'.heap.size w' w'') ∧
  (∀ w', Below w.heap.size w w' → ∀ x : Nat → UInt8, Calls Tryd.prog 37 #[.slice A n c, .agg (row 16 x)] w' fun e w'' => e = .returned (.tuple #[.agg (row 16 (D x)), .int .i64 0]) ∧ Below w'.heap.size w' w'')
theorem Cap.below {A : Option Addr} {n c : Nat} {E D : (Nat → UInt8) → Nat → UInt8} {w w' : World} (h : Cap A n c E D w) (hb : Below w.heap.size w w') : Cap A n c E D w' :=
  ⟨fun w2 h2 => h.1 w2 (hb.trans (h2.mono hb.size)), fun w2 h2 => h.2 w2 (hb.trans (h2.mono hb.size))⟩
/-- The document's Cipher in block g encrypts by E, and decrypts by D, from now on. -/
def RCap (g : Nat) (E D : (Nat → UInt8) → Nat → UInt8) (w : World) : Prop :=
  (∀ w', Below w.heap.size w w' → ∀ x : Nat → UInt8, Calls Tryd.prog 47 #[.pointer (some ⟨g, 0, none⟩), .agg (row 16 x)] w' fun e w'' => e = .returned (.agg (row 16 (E x))) ∧ Below w'.heap.size w' w'') ∧
  (∀ w', Below w.heap.size w w' → ∀ x : Nat → UInt8, Calls Tryd.prog 35 #[.pointer (some ⟨g, 0, none⟩), .agg (row 16 x)] w' fun e w'' => e = .returned (.agg (row 16 (D x))) ∧ Below w'.heap.size w' w'')
theorem RCap.below {g : Nat} {E D : (Nat → UInt8) → Nat → UInt8} {w w' : World} (h : RCap g E D w) (hb : Below w.heap.size w w') : RCap g E D w' :=
  ⟨fun w2 h2 => h.1 w2 (hb.trans (h2.mono hb.size)), fun w2 h2 => h.2 w2 (hb.trans (h2.mono hb.size))⟩
/-- What E and D are good for. -/
def Pair (E D : (Nat → UInt8) → Nat → UInt8) : Prop :=
  (∀ x y, E16 x y → E16 (E x) (E y)) ∧ (∀ x y, E16 x y → E16 (D x) (D y)) ∧ (∀ x, E16 (D (E x)) x) ∧ ∀ x, E16 (E (D x)) x
theorem Ci.of_same {w w' : World} {g : Nat} {t : TypeId} {F : Nat → UInt8} {r : Int} (h : Ci w g t F r) (hw : w'.heap[g]? = w.heap[g]?) : Ci w' g t F r := hw.trans h
/-- A key of a length that AES has: what both programs do by it. -/
theorem cap_of (A : Option Addr) (n c : Nat) (key : Nat → UInt8) (W : World) (hs : Row W 0 76 256 boxF) (hk : Bts W A n c key) (hn : n = 16 ∨ n = 32) :
    ∃ E D, Pair E D ∧ Cap A n c E D W ∧ ∀ w, Below W.heap.size W w → Calls Tryd.prog 31 #[.slice A n c] w fun e w' =>
      ∃ g, e = .returned (.tuple #[.pointer (some ⟨g, 0, none⟩), .bool true]) ∧ w.heap.size ≤ g ∧ g < w'.heap.size ∧ (∀ W', W'.heap[g]? = w'.heap[g]? → RCap g E D W') ∧ Below w.heap.size w w' := by
  obtain ⟨b, off, rfl, hc⟩ := hk.1 (by omega)
  have hlt : b < W.heap.size := block_lt_of_cell (hc 0 (by omega))
  have hc2 : ∀ w : World, Below W.heap.size W w → ∀ j, j < n → w.cell? ⟨b, off + j, none⟩ = some (.int .u8 ((key j).toNat : Int)) := fun w hb j hj => (hb.cell (p := ⟨b, off + j, none⟩) hlt).trans (hc j hj)
  rcases hn with rfl | rfl
  · obtain ⟨W4, hW4⟩ := sched_exists boxF 4 key (by omega)
    refine ⟨Go.Proofs.YtajifdnfibojfaaDoor.enc boxF 10 W4, Go.Proofs.YtajifdnfibojfaaDoor.dec (bk boxF 256) 10 W4, ⟨fun _ _ h => E16.enc h 10 (by omega) fun _ _ => rfl, fun _ _ h => E16.dec 10 h, fun x => dec_enc undo_back 10 (by omega) W4 x, fun x => enc_dec undo_back' 10 (by omega) W4 x⟩,
      ⟨fun w hb x => Encrypt16 boxF key W4 x b off c w (hs.below hb hs.lt) (hc2 w hb) hW4, fun w hb x => Decrypt16 boxF key W4 x b off c w (hs.below hb hs.lt) (hc2 w hb) hW4⟩, fun w hb => (New16 key W4 b off c w (hc2 w hb) hW4).mono ?_⟩
    rintro e w' ⟨g, rfl, hg, hci, hb'⟩
    refine ⟨g, rfl, hg, hci.lt, fun W' hW => ?_, hb'⟩
    have hci := hci.of_same hW
    exact ⟨fun w2 h2 x => Cipher_enc W4 x g (4 * (4 * 4 + 28)) 10 (4 + 6) w2 rfl (by omega) (by omega) (by omega) (hci.below h2 hci.lt), fun w2 h2 x => Cipher_dec W4 x g (4 * (4 * 4 + 28)) 10 (4 + 6) w2 rfl (by omega) (by omega) (by omega) (hci.below h2 hci.lt)⟩
  · obtain ⟨W4, hW4⟩ := sched_exists boxF 8 key (by omega)
    refine ⟨Go.Proofs.YtajifdnfibojfaaDoor.enc boxF 14 W4, Go.Proofs.YtajifdnfibojfaaDoor.dec (bk boxF 256) 14 W4, ⟨fun _ _ h => E16.enc h 14 (by omega) fun _ _ => rfl, fun _ _ h => E16.dec 14 h, fun x => dec_enc undo_back 14 (by omega) W4 x, fun x => enc_dec undo_back' 14 (by omega) W4 x⟩,
      ⟨fun w hb x => Encrypt32 boxF key W4 x b off c w (hs.below hb hs.lt) (hc2 w hb) hW4, fun w hb x => Decrypt32 boxF key W4 x b off c w (hs.below hb hs.lt) (hc2 w hb) hW4⟩, fun w hb => (New32 key W4 b off c w (hc2 w hb) hW4).mono ?_⟩
    rintro e w' ⟨g, rfl, hg, hci, hb'⟩
    refine ⟨g, rfl, hg, hci.lt, fun W' hW => ?_, hb'⟩
    have hci := hci.of_same hW
    exact ⟨fun w2 h2 x => Cipher_enc W4 x g (4 * (4 * 8 + 28)) 14 (8 + 6) w2 rfl (by omega) (by omega) (by omega) (hci.below h2 hci.lt), fun w2 h2 x => Cipher_dec W4 x g (4 * (4 * 8 + 28)) 14 (8 + 6) w2 rfl (by omega) (by omega) (by omega) (hci.below h2 hci.lt)⟩
end Go.Proofs.YtajifdnfibojfaaDoor

namespace Go.Proofs.YtajifdnfibojfaaDoor
open Go Go.RowKit
set_option maxRecDepth 100000

theorem und24 : Tryd.prog.underlying 53 = some (.array 24 5) := by kernel_rfl
theorem size24 : (Tryd.prog.info? 53).map (·.size) = some 24 := by kernel_rfl
theorem zero24 : (#[Value.int IntKind.u8 0, Value.int IntKind.u8 0, Value.int IntKind.u8 0, Value.int IntKind.u8 0, Value.int IntKind.u8 0, Value.int IntKind.u8 0, Value.int IntKind.u8 0, Value.int IntKind.u8 0, Value.int IntKind.u8 0, Value.int IntKind.u8 0, Value.int IntKind.u8 0, Value.int IntKind.u8 0, Value.int IntKind.u8 0, Value.int IntKind.u8 0, Value.int IntKind.u8 0, Value.int IntKind.u8 0, Value.int IntKind.u8 0, Value.int IntKind.u8 0, Value.int IntKind.u8 0, Value.int IntKind.u8 0, Value.int IntKind.u8 0, Value.int IntKind.u8 0, Value.int IntKind.u8 0, Value.int IntKind.u8 0] : Array Value) = row 24 (fun _ => 0) := by rfl
theorem shr8_int (x : UInt8) (r : Nat) : (x.toNat : Int) / 2 ^ r = ((shr8 x r).toNat : Int) := by
  unfold shr8
  have h : x.toNat / 2 ^ r ≤ x.toNat := Nat.div_le_self _ _
  have h2 := x.toNat_lt
  rw [UInt8.toNat_ofNat', Nat.mod_eq_of_lt (by omega)]
  simp

set_option maxHeartbeats 1000000 in
theorem stretched_c (t : Nat → UInt8) (w : World) : Calls Tryd.prog 24 #[.agg (row 16 t)] w fun e w' => e = .returned (.agg (row 24 (strB t))) ∧ Below w.heap.size w w' := by
  go_enter Tryd.func24, Tryd.ntmps24
  go_upto_region 2 with (fail)
  rw [zero24]
  obtain ⟨h0, h1, h2, h3⟩ := three_new w 32 t (fun _ => 0) (fun _ => 0) 16 24 24 53 53
  revert h0 h1 h2 h3
  generalize ((w.alloc (.cells (row 16 t) 32)).alloc (.cells (row 24 fun _ => 0) 53)).alloc (.cells (row 24 fun _ => 0) 53) = w1
  intro h0 h1 h2 h3
  refine region_seq (fun w' => Row w' w.heap.size 32 16 t ∧ Row w' (w.heap.size + 1) 53 24 (fun _ => 0) ∧ Row w' (w.heap.size + 1 + 1) 53 24 (fun _ => 0) ∧ Below w.heap.size w w') mixedOrders (by kernel_rfl) (by simp) ⟨h0.drew, h1.drew, h2.drew, h3.drew⟩ ?_
  clear h0 h1 h2 h3
  iterate 2
    refine Seq.next ?_ (Sure.val rfl (fun w' hS => ?_)) ?_
    rotate_left 1
    · clear hS
      go_simp
      rfl
    simp only [Act.put, List.setIfInBounds_toArray, List.set_cons_zero, List.set_cons_succ]
  refine Seq.copy_Row rfl _ _ 22 22 rfl 5 undB size8 (w.heap.size + 1 + 1) 0 24 24 ⟨w.heap.size, 0, none⟩ 16 16 rfl rfl 53 24 (fun _ => 0) (fun w' hS => hS.2.2.1) 16 t (by decide) (fun w' hS j hj => by rw [Addr.add_mid, Nat.zero_add]; exact hS.1.cell j hj) (by omega) fun w' hS => ?_
  obtain ⟨h0, h1, h2, h3⟩ := hS
  have h0 := h0.setRow_far (k := w.heap.size + 1 + 1) (by omega) (row 24 (cpy 0 16 (fun _ => 0) t))
  have h1 := h1.setRow_far (k := w.heap.size + 1 + 1) (by omega) (row 24 (cpy 0 16 (fun _ => 0) t))
  have h2 := (h2.setRow (cpy 0 16 (fun _ => 0) t)).congr (f' := upto 16 (strB t) fun _ => 0) fun i _ => by
    unfold cpy upto strB
    by_cases h : i < 16
    · rw [if_pos (by omega), if_pos h, if_pos h, Nat.sub_zero]
    · rw [if_neg (by omega), if_neg h]
  have h3 := below_setRow8 h3 (k := w.heap.size + 1 + 1) (by omega) (row 24 (cpy 0 16 (fun _ => 0) t))
  revert h0 h1 h2 h3
  generalize w'.setRow (w.heap.size + 1 + 1) (row 24 (cpy 0 16 (fun _ => 0) t)) = w2
  intro h0 h1 h2 h3
  simp only [Act.put, List.setIfInBounds_toArray, List.set_cons_zero, List.set_cons_succ]
  rw [show goInt ((16 : Nat) : Int) = .int .i64 16 from rfl]
  go_wp2_with (fail)
  go_loopw [4, 8] (fun _ i wr => ∃ m : Nat, m ≤ 8 ∧ i = .int .i64 m ∧ Row wr w.heap.size 32 16 t ∧ Row wr (w.heap.size + 1) 53 24 (fun _ => 0) ∧ Row wr (w.heap.size + 1 + 1) 53 24 (upto (16 + m) (strB t) fun _ => 0) ∧ Below w.heap.size w wr) (fun _ i _ => 8 - (intOf i).toNat)
  case atStart => exact ⟨0, by omega, rfl, h0, h1, h2, h3⟩
  case round =>
    obtain ⟨m, hm, rfl, ht, hz, hd, hbel⟩ := hrel
    clear h0 h1 h2 h3
    by_cases hlt : m < 8
    · go_wp2
      refine region_seq (fun w' => Row w' w.heap.size 32 16 t ∧ Row w' (w.heap.size + 1) 53 24 (fun _ => 0) ∧ Row w' (w.heap.size + 1 + 1) 53 24 (upto (16 + m) (strB t) fun _ => 0) ∧ Below w.heap.size w w') mixedOrders (by kernel_rfl) (by simp) ⟨ht.drew, hz.drew, hd.drew, hbel.drew⟩ ?_
      clear ht hz hd hbel
      iterate 11
        refine Seq.next ?_ (Sure.val rfl (fun w' hS => ?_)) ?_
        rotate_left 1
        · obtain ⟨ht, hz, hd, hbel⟩ := hS
          have e1 := ht.cell m (by omega)
          have e2 := ht.cell (m + 1) (by omega)
          have i1 := IntWalk.i64_in ((m : Int) + 1) (by omega)
          have i2 := IntWalk.i64_in (16 + (m : Int)) (by omega)
          have a1 : 0 ≤ (m : Int) + 1 := by omega
          have a2 : (m : Int) + 1 < 16 := by omega
          have a3 : ((m : Int) + 1).toNat = m + 1 := by omega
          have a4 : (m : Int) < 16 := by omega
          have b1 : 0 ≤ 16 + (m : Int) := by omega
          have b2 : 16 + (m : Int) < 24 := by omega
          have b3 : (16 + (m : Int)).toNat = 16 + m := by omega
          clear ht hz hd hbel
          go_simp
          rfl
        simp only [Act.put, List.setIfInBounds_toArray, List.set_cons_zero, List.set_cons_succ, xor8]
      rw [show xr (t m) (t (m + 1)) = strB t (16 + m) by unfold strB; rw [if_neg (by omega), show 16 + m - 16 = m by omega, show 16 + m - 15 = m + 1 by omega]]
      refine Seq.last rfl fun w' hS => ?_
      obtain ⟨ht, hz, hd, hbel⟩ := hS
      have e1 := hd.cell (16 + m) (by omega)
      have e3 := hd.frozen (16 + m)
      go_simp
      clear e1 e3
      go_wp2
      go_roundw
      case rel => exact ⟨m + 1, by omega, by go_num, ht.far (by simp; omega) _, hz.far (by simp) _, by rw [show 16 + (m + 1) = 16 + m + 1 by omega, ← upto_succ]; exact hd.set_ (16 + m) (strB t (16 + m)), hbel.setCell (by simp; omega) _⟩
      case measure => simp [intOf]; omega
    · obtain rfl : m = 8 := by omega
      have hd2 := hd.congr (f' := strB t) fun i hi => upto_all _ _ i (by omega)
      go_wp2_with (first | (refine wpList_load_Row rfl 53 _ rfl _ rfl _ 24 _ _ hd2 und24 size24 ?_) | (refine wpList_store_Row rfl 53 _ _ rfl _ rfl _ 24 _ _ rfl hz size24 ?_))
      exact ret_Row rfl rfl _ _ 24 _ _ rfl (hz.setRow _) und24 size24 ⟨rfl, below_setRow8 hbel (by omega) _⟩

set_option maxHeartbeats 1000000 in
theorem cutFrom_c (s : Nat → UInt8) (bt : Nat) (w : World) (hbt : bt < 64) : Calls Tryd.prog 23 #[.agg (row 24 s), .int .i64 (bt : Int)] w fun e w' => e = .returned (.agg (row 16 (cutB s bt))) ∧ Below w.heap.size w w' := by
  obtain ⟨q, hq⟩ : ∃ q, q = bt / 8 := ⟨_, rfl⟩
  obtain ⟨r, hr⟩ : ∃ r, r = bt % 8 := ⟨_, rfl⟩
  have hq8 : q < 8 := by omega
  have hr8 : r < 8 := by omega
  have e1 : (bt : Int) / 8 = (q : Int) := by omega
  have e2 : (bt : Int).tmod 8 = (r : Int) := by rw [Int.tmod_eq_emod_of_nonneg (by omega)]; omega
  have hcut : ∀ j, cutB s bt j = (s (q + j) <<< UInt8.ofNat r) ||| shr8 (s (q + j + 1)) (8 - r) := fun j => by unfold cutB; rw [hq, hr]
  obtain ⟨X, hX⟩ : ∃ X, X = cutB s bt := ⟨_, rfl⟩
  rw [← hX] at hcut ⊢
  have E1 := Lib.hid e1
  have E2 := Lib.hid e2
  have HC := Lib.hid hcut
  clear hX hcut e1 e2 hq hr
  go_enter Tryd.func23, Tryd.ntmps23
  go_upto_region 2 with (fail)
  rw [zero16]
  obtain ⟨h0, h1, h2, h3⟩ := three_new w 53 s (fun _ => 0) (fun _ => 0) 24 16 16 32 32
  revert h0 h1 h2 h3
  generalize ((w.alloc (.cells (row 24 s) 53)).alloc (.cells (row 16 fun _ => 0) 32)).alloc (.cells (row 16 fun _ => 0) 32) = w1
  intro h0 h1 h2 h3
  go_wp2_with (fail)
  go_loopw [6, 7, 8] (fun _ _ i wr => ∃ m : Nat, m ≤ 16 ∧ i = .int .i64 m ∧ Row wr w.heap.size 53 24 s ∧ Row wr (w.heap.size + 1) 32 16 (fun _ => 0) ∧ Row wr (w.heap.size + 1 + 1) 32 16 (upto m X fun _ => 0) ∧ Below w.heap.size w wr) (fun _ _ i _ => 16 - (intOf i).toNat)
  case atStart => exact ⟨0, by omega, rfl, h0, h1, by rw [upto_zero]; exact h2, h3⟩
  case round =>
    obtain ⟨m, hm, rfl, ht, hz, hd, hbel⟩ := hrel
    clear h0 h1 h2 h3
    by_cases hlt : m < 16
    · have e1 := E1.out
      go_wp2
      clear e1
      refine region_seq (fun w' => Row w' w.heap.size 53 24 s ∧ Row w' (w.heap.size + 1) 32 16 (fun _ => 0) ∧ Row w' (w.heap.size + 1 + 1) 32 16 (upto m X fun _ => 0) ∧ Below w.heap.size w w') mixedOrders (by kernel_rfl) (by simp) ⟨ht.drew, hz.drew, hd.drew, hbel.drew⟩ ?_
      clear ht hz hd hbel
      iterate 17
        refine Seq.next ?_ (Sure.val rfl (fun w' hS => ?_)) ?_
        rotate_left 1
        · obtain ⟨ht, hz, hd, hbel⟩ := hS
          have c1 := ht.cell (q + m) (by omega)
          have c2 := ht.cell (q + m + 1) (by omega)
          have e2 := E2.out
          have i1 : IntKind.i64.wrap ((q : Int) + (m : Int) + 1) = (q : Int) + (m : Int) + 1 := IntWalk.i64_in _ (by omega)
          have i2 : IntKind.i64.wrap (8 - (r : Int)) = ((8 - r : Nat) : Int) := by rw [IntWalk.i64_in _ (by omega)]; omega
          have i3 : IntKind.i64.wrap (r : Int) = (r : Int) := IntWalk.i64_in _ (by omega)
          have a1 : 0 ≤ (q : Int) + (m : Int) := by omega
          have a2 : (q : Int) + (m : Int) < 24 := by omega
          have a3 : ((q : Int) + (m : Int)).toNat = q + m := by omega
          have b1 : 0 ≤ (q : Int) + (m : Int) + 1 := by omega
          have b2 : (q : Int) + (m : Int) + 1 < 24 := by omega
          have b3 : ((q : Int) + (m : Int) + 1).toNat = q + m + 1 := by omega
          have d1 : 0 ≤ (r : Int) := by omega
          have d2 : (r : Int) ≤ 8 := by omega
          have d3 : (m : Int) < 16 := by omega
          have d4 : 0 ≤ ((8 - r : Nat) : Int) := by omega
          have d5 : ((8 - r : Nat) : Int) ≤ 8 := by omega
          have d6 : (((8 - r : Nat) : Int)).toNat = 8 - r := by omega
          clear ht hz hd hbel
          go_simp
          rfl
        simp only [Act.put, List.setIfInBounds_toArray, List.set_cons_zero, List.set_cons_succ]
      rw [IntKind.wrap_u8', shr8_int, shl_int _ r hr8, or8, ← HC.out m]
      refine Seq.last rfl fun w' hS => ?_
      obtain ⟨ht, hz, hd, hbel⟩ := hS
      have e1 := hd.cell m (by omega)
      have e3 := hd.frozen m
      have d3 : (m : Int) < 16 := by omega
      go_simp
      clear e1 e3
      go_wp2
      go_roundw
      case rel => exact ⟨m + 1, by omega, by go_num, ht.far (by simp; omega) _, hz.far (by simp) _, by rw [← upto_succ]; exact hd.set_ m (X m), hbel.setCell (by simp; omega) _⟩
      case measure => simp [intOf]; omega
    · obtain rfl : m = 16 := by omega
      have hd2 := hd.congr (f' := X) fun i hi => upto_all _ _ i (by omega)
      go_wp2_with (first | (refine wpList_load_Row rfl 32 _ rfl _ rfl _ 16 _ _ hd2 und16 size16 ?_) | (refine wpList_store_Row rfl 32 _ _ rfl _ rfl _ 16 _ _ rfl hz size16 ?_))
      exact ret_Row rfl rfl _ _ 16 _ _ rfl (hz.setRow _) und16 size16 ⟨rfl, below_setRow8 hbel (by omega) _⟩

end Go.Proofs.YtajifdnfibojfaaDoor

namespace Go.Proofs.YtajifdnfibojfaaDoor
open Go Go.RowKit
set_option maxRecDepth 100000

/-- A key's masks: the key, L*, L$. -/
def mkRow (K : Value) (st dl : Nat → UInt8) : Array Value := #[K] ++ row 16 st ++ row 16 dl
theorem mkRow_key (K : Value) (st dl : Nat → UInt8) : (mkRow K st dl)[0]? = some K := by
  unfold mkRow
  simp [Array.getElem?_append]

set_option maxHeartbeats 2000000 in
theorem menc_c (A : Option Addr) (n c : Nat) (E D : (Nat → UInt8) → Nat → UInt8) (st dl x : Nat → UInt8) (w : World) (hcap : Cap A n c E D w) :
    Calls Tryd.prog 15 #[.agg (mkRow (.slice A n c) st dl), .agg (row 16 x)] w fun e w' => e = .returned (.agg (row 16 (E x))) ∧ Below w.heap.size w w' := by
  obtain ⟨Y, hY⟩ : ∃ Y, Y = E x := ⟨_, rfl⟩
  rw [← hY]
  have HY := Lib.hid hY
  have HC := Lib.hid hcap
  clear hY hcap
  go_enter Tryd.func15, Tryd.ntmps15
  go_upto_region 1 with (fail)
  rw [zero16]
  have hm : Blk (((w.alloc (.cells (mkRow (.slice A n c) st dl) 34)).alloc (.cells (row 16 x) 32)).alloc (.cells (row 16 fun _ => 0) 32)) w.heap.size 34 (mkRow (.slice A n c) st dl) := ((Blk.new w _ _).alloc _).alloc _
  have hx := (Row.new (w.alloc (.cells (mkRow (.slice A n c) st dl) 34)) 32 16 x).alloc (.cells (row 16 fun _ => 0) 32)
  have hz := Row.new ((w.alloc (.cells (mkRow (.slice A n c) st dl) 34)).alloc (.cells (row 16 x) 32)) 32 16 (fun _ => 0)
  have hbel : Below w.heap.size w (((w.alloc (.cells (mkRow (.slice A n c) st dl) 34)).alloc (.cells (row 16 x) 32)).alloc (.cells (row 16 fun _ => 0) 32)) := (((Below.refl _ _).alloc (Nat.le_refl _) _).alloc (by simp) _).alloc (by simp; omega) _
  simp only [World.size_alloc] at hx hz
  revert hm hx hz hbel
  generalize ((w.alloc (.cells (mkRow (.slice A n c) st dl) 34)).alloc (.cells (row 16 x) 32)).alloc (.cells (row 16 fun _ => 0) 32) = w1
  intro hm hbel hx hz
  have e0 : w1.cell? ⟨w.heap.size, 0, none⟩ = some (.slice A n c) := (hm.cell 0).trans (mkRow_key _ _ _)
  go_wp2_with (refine wpList_load_Row rfl 32 _ rfl (w.heap.size + 1) rfl 32 16 x _ hx und16 size16 ?_)
  have hc := HC.out.1 w1 hbel x
  rw [← HY.out] at hc
  refine hc.mono ?_
  rintro e w2 ⟨rfl, hb2⟩
  have hz := hz.below hb2 hz.lt
  have hbel := hbel.trans (hb2.mono hbel.size)
  clear hm hx hb2 e0 hc
  have hlz := hz.lt
  go_wp2_with (first | (refine wpList_alloc_Row rfl 32 rfl 16 zero16z ?_) | (refine wpList_store_Row rfl 32 _ _ rfl w2.heap.size rfl 32 16 (fun _ => 0) _ rfl (Row.new _ _ _ _) size16 ?_) | (refine wpList_load_Row rfl 32 _ rfl w2.heap.size rfl 32 16 Y _ ((Row.new w2 32 16 (fun _ => 0)).setRow _) und16 size16 ?_) | (refine wpList_store_Row rfl 32 _ _ rfl (w.heap.size + 1 + 1) rfl 32 16 (fun _ => 0) _ rfl ((hz.alloc _).setRow_far (by omega) _) size16 ?_))
  exact ret_Row rfl rfl _ _ 16 _ _ rfl (((hz.alloc _).setRow_far (by omega) _).setRow Y) und16 size16 ⟨rfl, below_setRow8 (below_setRow8 (hbel.alloc hbel.size _) hbel.size _) (by omega) _⟩

set_option maxHeartbeats 2000000 in
theorem mdec_c (A : Option Addr) (n c : Nat) (E D : (Nat → UInt8) → Nat → UInt8) (st dl x : Nat → UInt8) (w : World) (hcap : Cap A n c E D w) :
    Calls Tryd.prog 21 #[.agg (mkRow (.slice A n c) st dl), .agg (row 16 x)] w fun e w' => e = .returned (.agg (row 16 (D x))) ∧ Below w.heap.size w w' := by
  obtain ⟨Y, hY⟩ : ∃ Y, Y = D x := ⟨_, rfl⟩
  rw [← hY]
  have HY := Lib.hid hY
  have HC := Lib.hid hcap
  clear hY hcap
  go_enter Tryd.func21, Tryd.ntmps21
  go_upto_region 1 with (fail)
  rw [zero16]
  have hm : Blk (((w.alloc (.cells (mkRow (.slice A n c) st dl) 34)).alloc (.cells (row 16 x) 32)).alloc (.cells (row 16 fun _ => 0) 32)) w.heap.size 34 (mkRow (.slice A n c) st dl) := ((Blk.new w _ _).alloc _).alloc _
  have hx := (Row.new (w.alloc (.cells (mkRow (.slice A n c) st dl) 34)) 32 16 x).alloc (.cells (row 16 fun _ => 0) 32)
  have hz := Row.new ((w.alloc (.cells (mkRow (.slice A n c) st dl) 34)).alloc (.cells (row 16 x) 32)) 32 16 (fun _ => 0)
  have hbel : Below w.heap.size w (((w.alloc (.cells (mkRow (.slice A n c) st dl) 34)).alloc (.cells (row 16 x) 32)).alloc (.cells (row 16 fun _ => 0) 32)) := (((Below.refl _ _).alloc (Nat.le_refl _) _).alloc (by simp) _).alloc (by simp; omega) _
  simp only [World.size_alloc] at hx hz
  revert hm hx hz hbel
  generalize ((w.alloc (.cells (mkRow (.slice A n c) st dl) 34)).alloc (.cells (row 16 x) 32)).alloc (.cells (row 16 fun _ => 0) 32) = w1
  intro hm hbel hx hz
  have e0 : w1.cell? ⟨w.heap.size, 0, none⟩ = some (.slice A n c) := (hm.cell 0).trans (mkRow_key _ _ _)
  go_wp2_with (refine wpList_load_Row rfl 32 _ rfl (w.heap.size + 1) rfl 32 16 x _ hx und16 size16 ?_)
  have hc := HC.out.2 w1 hbel x
  rw [← HY.out] at hc
  refine hc.mono ?_
  rintro e w2 ⟨rfl, hb2⟩
  have hz := hz.below hb2 hz.lt
  have hbel := hbel.trans (hb2.mono hbel.size)
  clear hm hx hb2 e0 hc
  have hlz := hz.lt
  go_wp2_with (first | (refine wpList_alloc_Row rfl 32 rfl 16 zero16z ?_) | (refine wpList_store_Row rfl 32 _ _ rfl w2.heap.size rfl 32 16 (fun _ => 0) _ rfl (Row.new _ _ _ _) size16 ?_) | (refine wpList_load_Row rfl 32 _ rfl w2.heap.size rfl 32 16 Y _ ((Row.new w2 32 16 (fun _ => 0)).setRow _) und16 size16 ?_) | (refine wpList_store_Row rfl 32 _ _ rfl (w.heap.size + 1 + 1) rfl 32 16 (fun _ => 0) _ rfl ((hz.alloc _).setRow_far (by omega) _) size16 ?_))
  exact ret_Row rfl rfl _ _ 16 _ _ rfl (((hz.alloc _).setRow_far (by omega) _).setRow Y) und16 size16 ⟨rfl, below_setRow8 (below_setRow8 (hbel.alloc hbel.size _) hbel.size _) (by omega) _⟩

end Go.Proofs.YtajifdnfibojfaaDoor

namespace Go.Proofs.YtajifdnfibojfaaDoor
open Go Go.RowKit
set_option maxRecDepth 100000

/-- The table of math/bits as its text lays it. -/
abbrev DeB (w : World) : Prop := TabAt 2 Lib.deBruijn64tab w

set_option maxHeartbeats 1000000 in
theorem tz64_core (x k idx : Nat) (w : World) (hx0 : ((x : Int) == 0) = false)
    (key : IntKind.u64.wrap (bits BinOp.and IntKind.u64 (x : Int) (IntKind.u64.wrap (-(x : Int))) * 285870213051353865) / 288230376151711744 = (idx : Int))
    (hi : idx < 64) (hk : k < 64) (hcell : w.cell? ⟨2, idx, none⟩ = some (.int .u8 k)) :
    Calls Tryd.prog 61 #[.int .u64 x] w fun e w' => e = .returned (.int .i64 k) ∧ w' = w := by
  go_enter Tryd.func61, Tryd.ntmps61
  go_wp2_with (simp only [key])
  go_ret
  exact ⟨rfl, rfl⟩

theorem tz64_c (x : Nat) (hx : x < 18446744073709551616) (hx0 : x ≠ 0) (w : World) (hT : DeB w) :
    Calls Tryd.prog 61 #[.int .u64 x] w fun e w' => e = .returned (.int .i64 (Lib.ctz 64 x)) ∧ w' = w := by
  obtain ⟨hlow, hk⟩ := Lib.lowest_bit 64 x hx0 hx
  obtain ⟨hi, htab⟩ := Lib.deBruijn64_at _ hk
  have hcell := hT _ hi
  rw [htab] at hcell
  exact tz64_core x _ _ w (by simp; omega) (tz64_key x _ hx hx0 hlow) hi hk hcell

theorem tz_enters : ∀ args w, (callFunc 61 args).run Tryd.prog w = .ok (.enter 61 args) w := enters_of Tryd.func61 (by kernel_rfl) rfl

theorem tz_c (x : Nat) (hx : x < 18446744073709551616) (hx0 : x ≠ 0) (w : World) (hT : DeB w) :
    Calls Tryd.prog 51 #[.int .u64 x] w fun e w' => e = .returned (.int .i64 (Lib.ctz 64 x)) ∧ w' = w := by
  have c64 := tz64_c x hx hx0 w hT
  have e29 := tz_enters
  have hw : IntKind.u64.wrap (x : Int) = (x : Int) := by rw [IntKind.wrap_u64]; omega
  go_enter Tryd.func51, Tryd.ntmps51
  go_wp2_with (go_at_fn 61; refine c64.mono ?_; rintro e w' ⟨rfl, hw'⟩; rw [hw'])
  go_ret
  exact ⟨rfl, rfl⟩
end Go.Proofs.YtajifdnfibojfaaDoor

namespace Go.Proofs.YtajifdnfibojfaaDoor
open Go Go.RowKit
set_option maxRecDepth 100000

/-- Doubled k times. -/
def dbls : Nat → (Nat → UInt8) → (Nat → UInt8)
  | 0, b => b
  | k + 1, b => dblB (dbls k b)

theorem dbls_in (k : Nat) (b : Nat → UInt8) : dbls k (dblB b) = dbls (k + 1) b := by
  induction k with
  | zero => rfl
  | succ k ih => rw [dbls, ih]; rfl

theorem mkRow_st (K : Value) (st dl : Nat → UInt8) (j : Nat) (hj : j < 16) : (mkRow K st dl)[1 + j]? = some (by8 (st j)) := by
  unfold mkRow
  have h1 : (#[K] ++ row 16 st).size = 17 := by simp [row_size]
  rw [Array.getElem?_append, if_pos (by omega), Array.getElem?_append, if_neg (by simp), show 1 + j - #[K].size = j by simp, row_get _ _ _ hj]
theorem mkRow_dl (K : Value) (st dl : Nat → UInt8) (j : Nat) (hj : j < 16) : (mkRow K st dl)[17 + j]? = some (by8 (dl j)) := by
  unfold mkRow
  have h1 : (#[K] ++ row 16 st).size = 17 := by simp [row_size]
  rw [Array.getElem?_append, if_neg (by omega), h1, show 17 + j - 17 = j by omega, row_get _ _ _ hj]

theorem DeB.below {w w' : World} {B : Nat} (h : DeB w) (hb : Below B w w') (hB : 2 < B) : DeB w' := fun j hj => (hb.cell (p := ⟨2, j, none⟩) hB).trans (h j hj)

set_option maxHeartbeats 2000000 in
theorem step_c (K : Value) (st dl : Nat → UInt8) (i : Nat) (hi : i < 18446744073709551616) (hi0 : i ≠ 0) (w : World) (hT : DeB w) (hg : 2 < w.heap.size) :
    Calls Tryd.prog 40 #[.agg (mkRow K st dl), .int .u64 i] w fun e w' => e = .returned (.agg (row 16 (dbls (Lib.ctz 64 i + 1) dl))) ∧ Below w.heap.size w w' := by
  obtain ⟨z, hz⟩ : ∃ z, z = Lib.ctz 64 i := ⟨_, rfl⟩
  have HZ := Lib.hid hz
  rw [← hz]
  clear hz
  obtain ⟨D1, hD1⟩ : ∃ D1, D1 = dblB dl := ⟨_, rfl⟩
  have HD := Lib.hid hD1
  clear hD1
  go_enter Tryd.func40, Tryd.ntmps40
  go_upto_region 1 with (fail)
  rw [zero16]
  have hm : Blk ((w.alloc (.cells (mkRow K st dl) 34)).alloc (.cells (row 16 fun _ => 0) 32)) w.heap.size 34 (mkRow K st dl) := (Blk.new w _ _).alloc _
  have hr := Row.new (w.alloc (.cells (mkRow K st dl) 34)) 32 16 (fun _ => 0)
  have hbel : Below w.heap.size w ((w.alloc (.cells (mkRow K st dl) 34)).alloc (.cells (row 16 fun _ => 0) 32)) := ((Below.refl _ _).alloc (Nat.le_refl _) _).alloc (by simp) _
  simp only [World.size_alloc] at hr
  revert hm hr hbel
  generalize (w.alloc (.cells (mkRow K st dl) 34)).alloc (.cells (row 16 fun _ => 0) 32) = w1
  intro hm hbel hr
  have e17 : ∀ j, j < 16 → w1.cell? ⟨w.heap.size, 17 + j, none⟩ = some (.int .u8 ((dl j).toNat : Int)) := fun j hj => (hm.cell _).trans (mkRow_dl _ _ _ _ hj)
  go_wp2_with (first | (refine wpList_load_Cells rfl 32 _ rfl w.heap.size 17 rfl 16 dl _ e17 und16 size16 ?_) | (go_at_fn 38))
  have hc := odoubled_c dl w1
  rw [← HD.out] at hc
  refine hc.mono ?_
  rintro e w2 ⟨rfl, hb2⟩
  have hr := hr.below hb2 hr.lt
  have hbel := hbel.trans (hb2.mono hbel.size)
  clear hm hb2 e17 hc
  have hlr := hr.lt
  go_wp2_with (first | (refine wpList_alloc_Row rfl 32 rfl 16 zero16z ?_) | (refine wpList_store_Row rfl 32 _ _ rfl w2.heap.size rfl 32 16 (fun _ => 0) _ rfl (Row.new _ _ _ _) size16 ?_) | (go_at_fn 51))
  have hl := (Row.new w2 32 16 (fun _ => 0)).setRow D1
  have hr := (hr.alloc (.cells (row 16 fun _ => 0) 32)).setRow_far (k := w2.heap.size) (by omega) (row 16 D1)
  have hbel := below_setRow8 (k := w2.heap.size) (hbel.alloc hbel.size (.cells (row 16 fun _ => 0) 32)) hbel.size (row 16 D1)
  have hgl : w.heap.size + 1 < w2.heap.size := hlr
  revert hl hr hbel hgl
  clear hr hlr hbel
  generalize (w2.alloc (.cells (row 16 fun _ => 0) 32)).setRow w2.heap.size (row 16 D1) = w3
  generalize w2.heap.size = gl
  intro hl hr hbel hgl
  have hT3 := DeB.below hT hbel hg
  have hz64 : z < 64 := by rw [HZ.out]; exact (Lib.lowest_bit 64 i hi0 hi).2
  have hc := tz_c i hi hi0 w3 hT3
  rw [← HZ.out] at hc
  refine hc.mono ?_
  rintro e w4 ⟨rfl, rfl⟩
  clear hc hT3
  go_wp2_with (fail)
  go_loopw [11] (fun i_ wr => ∃ m : Nat, m ≤ z ∧ i_ = .int .i64 m ∧ Row wr gl 32 16 (dbls m D1) ∧ Row wr (w.heap.size + 1) 32 16 (fun _ => 0) ∧ Below w.heap.size w wr) (fun i_ _ => z - (intOf i_).toNat)
  case atStart => exact ⟨0, by omega, rfl, hl, hr, hbel⟩
  case round =>
    obtain ⟨m, hm, rfl, hl2, hr2, hbel2⟩ := hrel
    clear hl hr hbel
    by_cases hlt : m < z
    · have hl3 := hl2.lt
      obtain ⟨cur, hcur⟩ : ∃ cur : Nat → UInt8, cur = dbls m D1 := ⟨_, rfl⟩
      obtain ⟨nxt, hnxt⟩ : ∃ nxt : Nat → UInt8, nxt = dblB cur := ⟨_, rfl⟩
      have hnx : nxt = dbls (m + 1) D1 := by rw [hnxt, hcur]; rfl
      rw [← hcur] at hl2
      have HN := Lib.hid hnxt
      have HX := Lib.hid hnx
      clear hcur hnxt hnx
      go_wp2_with (first | (refine wpList_load_Row rfl 32 _ rfl gl rfl 32 16 cur _ hl2 und16 size16 ?_) | (go_at_fn 38))
      have hc := odoubled_c cur wr
      rw [← HN.out] at hc
      refine hc.mono ?_
      rintro e w5 ⟨rfl, hb5⟩
      have hl5 := hl2.below hb5 hl2.lt
      have hr5 := hr2.below hb5 hr2.lt
      have hbel5 := hbel2.trans (hb5.mono hbel2.size)
      clear hl2 hr2 hbel2 hc hb5
      go_wp2_with (first | (refine wpList_store_Row rfl 32 _ _ rfl gl rfl 32 16 cur nxt rfl hl5 size16 ?_))
      go_roundw
      case rel => exact ⟨m + 1, by omega, by go_num, by rw [← HX.out]; exact hl5.setRow _, hr5.setRow_far (by omega) _, below_setRow8 hbel5 (by omega) _⟩
      case measure => simp [intOf]; omega
    · obtain rfl : m = z := by omega
      obtain ⟨cur, hcur⟩ : ∃ cur : Nat → UInt8, cur = dbls m D1 := ⟨_, rfl⟩
      rw [← hcur] at hl2
      have hcx : cur = dbls (m + 1) dl := by rw [hcur, HD.out, dbls_in]
      have HX := Lib.hid hcx
      clear hcur hcx
      go_wp2_with (first | (refine wpList_load_Row rfl 32 _ rfl gl rfl 32 16 cur _ hl2 und16 size16 ?_) | (refine wpList_store_Row rfl 32 _ _ rfl (w.heap.size + 1) rfl 32 16 (fun _ => 0) cur rfl hr2 size16 ?_))
      exact ret_Row rfl rfl _ _ 16 _ _ rfl (hr2.setRow _) und16 size16 ⟨by rw [HX.out], below_setRow8 hbel2 (by omega) _⟩
end Go.Proofs.YtajifdnfibojfaaDoor

namespace Go.Proofs.YtajifdnfibojfaaDoor
open Go Go.RowKit
set_option maxRecDepth 100000

theorem mk_size (K : Value) (st dl : Nat → UInt8) : (mkRow K st dl).size = 33 := by simp [mkRow, row_size]
theorem mk_one (A : Option Addr) (n c : Nat) (st dl : Nat → UInt8) : (mkRow (.slice A n c) st dl).all (·.oneCell') = true := by
  rw [mkRow, Array.all_append, Array.all_append, row_one, row_one]
  simp [Value.oneCell']
theorem mk_built (A : Option Addr) (n c : Nat) (st dl : Nat → UInt8) : Tryd.prog.built 34 [(0, .slice A n c), (1, .agg (row 16 st)), (2, .agg (row 16 dl))] = some (mkRow (.slice A n c) st dl) := by kernel_rfl
theorem sizeMk : (Tryd.prog.info? 34).map (·.size) = some 33 := by kernel_rfl
theorem undMk : (Tryd.prog.underlying 34).map (·.isRow) = some true := by kernel_rfl
section
variable {P : Program} {ops : Array Oper} {Q : Exit → Act → World → Prop} {S : World → Prop}
theorem exec_build {o : Oper} {a : Act} (t : TypeId) (parts : Array (Nat × Operand)) (ho : o.op = .build t parts) (cells : Array Value) (vals : List (Nat × Value)) (hv : (parts.map fun (i, x) => (i, a.eval x)).toList = vals)
    (hb : P.built t vals = some cells) (w : World) : (execOp a.eval o).run P w = .ok (.value (.agg cells)) w := by
  subst hv
  unfold execOp
  simp only [ho, Sem.run_bind, Sem.run_pure]
  rw [run_build w t _ cells hb]
  rfl
theorem held_store_cells (i : Nat) {o : Oper} (hd : o.dst = none) {fuel : Nat} {listed : Array Bool} {a : Act} {w : World} (hi : ops[i]? = some o) (hr : Region.ready .any ops listed = [i]) (hwant : Region.wanted o (yielded ops a.tmps) = true)
    (ty : TypeId) (x y : Operand) (ho : o.op = .store ty x y)
    (g : Nat) (hx : a.eval x = .pointer (some ⟨g, 0, none⟩)) (t : TypeId) (old cells : Array Value) (hy : a.eval y = .agg cells) (hg : Blk w g t old) (hsz : (P.info? ty).map (·.size) = some cells.size) (hold : old.size = cells.size) (h1 : cells.all (·.oneCell') = true)
    (h : S (w.setRow g cells) ∧ wpAnyH P .any ops Q S fuel (listed.setIfInBounds i true) a (w.setRow g cells)) : wpAnyH P .any ops Q S (fuel + 1) listed a w :=
  held_only i hi hr hwant (wp_store_row ty x y ho g cells hx hy t old hg hsz hold h1 (by rw [hd]; exact h))
/-- The results: a struct's cells and another part. -/
theorem ret_Blk_tmp {w : World} {fn : Func} {R : Ending → World → Prop} {a : Act} {p t2 : Tmp} {ty : TypeId} (h : fn.results = #[.cell p ty, .tmp t2]) (hd : a.defers = []) (g : Nat) (t : TypeId) (cs : Array Value) (hdd : (P.underlying ty).map (·.isRow) = some true) (v : Value)
    (hp : a.tmps.getD p undef = .pointer (some ⟨g, 0, none⟩)) (hv : a.tmps.getD t2 undef = v) (hg : Blk w g t cs) (hi : (P.info? ty).map (·.size) = some cs.size)
    (hR : R (.returned (.tuple #[.agg cs, v])) w) : bodyPost P fn R .ret a w := by
  obtain ⟨d, hu⟩ : ∃ d, P.underlying ty = some d := by
    cases h : P.underlying ty with
    | none => rw [h] at hdd; cases hdd
    | some d => exact ⟨d, rfl⟩
  have hdr : d.isRow = true := by
    rw [hu] at hdd
    exact Option.some.inj hdd
  have hp' : a.tmps[p]?.getD undef = .pointer (some ⟨g, 0, none⟩) := by simpa using hp
  have hv' : a.tmps[t2]?.getD undef = v := by simpa using hv
  exact bodyPost_ret (v := .tuple #[.agg cs, v]) (by simp [results, h, hp', hv', asAddr, run_loadVar_row w g t ty cs _ d hg hu (by cases d <;> first | rfl | cases hdr) hi]) hd hR
end
theorem Blk.setRow {w : World} {g : Nat} {t : TypeId} {cs : Array Value} (h : Blk w g t cs) (cs' : Array Value) : Blk (w.setRow g cs') g t cs' := setRow_heap w g _ cs' t _ h
theorem mk0 : (#[Value.slice none 0 0, Value.int IntKind.u8 0, Value.int IntKind.u8 0, Value.int IntKind.u8 0,
          Value.int IntKind.u8 0, Value.int IntKind.u8 0, Value.int IntKind.u8 0, Value.int IntKind.u8 0,
          Value.int IntKind.u8 0, Value.int IntKind.u8 0, Value.int IntKind.u8 0, Value.int IntKind.u8 0,
          Value.int IntKind.u8 0, Value.int IntKind.u8 0, Value.int IntKind.u8 0, Value.int IntKind.u8 0,
          Value.int IntKind.u8 0, Value.int IntKind.u8 0, Value.int IntKind.u8 0, Value.int IntKind.u8 0,
          Value.int IntKind.u8 0, Value.int IntKind.u8 0, Value.int IntKind.u8 0, Value.int IntKind.u8 0,
          Value.int IntKind.u8 0, Value.int IntKind.u8 0, Value.int IntKind.u8 0, Value.int IntKind.u8 0,
          Value.int IntKind.u8 0, Value.int IntKind.u8 0, Value.int IntKind.u8 0, Value.int IntKind.u8 0,
          Value.int IntKind.u8 0] : Array Value) = mkRow (.slice none 0 0) (fun _ => 0) fun _ => 0 := by rfl

set_option maxHeartbeats 2000000 in
theorem newMasks_c (A : Option Addr) (n c : Nat) (E D : (Nat → UInt8) → Nat → UInt8) (w : World) (hcap : Cap A n c E D w) :
    Calls Tryd.prog 22 #[.slice A n c] w fun e w' => e = .returned (.tuple #[.agg (mkRow (.slice A n c) (E fun _ => 0) (dblB (E fun _ => 0))), .int .i64 0]) ∧ Below w.heap.size w w' := by
  obtain ⟨Y, hY⟩ : ∃ Y, Y = E fun _ => 0 := ⟨_, rfl⟩
  rw [← hY]
  have HY := Lib.hid hY
  have HC := Lib.hid hcap
  clear hY hcap
  obtain ⟨D1, hD1⟩ : ∃ D1, D1 = dblB Y := ⟨_, rfl⟩
  rw [← hD1]
  have HD := Lib.hid hD1
  clear hD1
  go_enter Tryd.func22, Tryd.ntmps22
  go_upto_region 1 with (fail)
  have hm : Blk (w.alloc (.cells (mkRow (.slice none 0 0) (fun _ => 0) fun _ => 0) 34)) w.heap.size 34 (mkRow (.slice none 0 0) (fun _ => 0) fun _ => 0) := Blk.new w _ _
  rw [mk0]
  have hbel : Below w.heap.size w (w.alloc (.cells (mkRow (.slice none 0 0) (fun _ => 0) fun _ => 0) 34)) := (Below.refl _ _).alloc (Nat.le_refl _) _
  revert hm hbel
  generalize w.alloc (.cells (mkRow (.slice none 0 0) (fun _ => 0) fun _ => 0) 34) = w1
  intro hm hbel
  go_wp2_with (fail)
  rw [zero16]
  have hc := HC.out.1 w1 hbel (fun _ => 0)
  rw [← HY.out] at hc
  refine hc.mono ?_
  rintro e w2 ⟨rfl, hb2⟩
  have hm := hm.below hb2 hm.lt
  have hbel := hbel.trans (hb2.mono hbel.size)
  clear hc hb2
  have hlm := hm.lt
  go_wp2_with (first | (refine wpList_alloc_Row rfl 32 rfl 16 zero16z ?_) | (refine wpList_store_Row rfl 32 _ _ rfl w2.heap.size rfl 32 16 (fun _ => 0) _ rfl (Row.new _ _ _ _) size16 ?_))
  have hl := (Row.new w2 32 16 (fun _ => 0)).setRow Y
  have hm := (hm.alloc (.cells (row 16 fun _ => 0) 32)).setRow_far (k := w2.heap.size) (by omega) (row 16 Y)
  have hbel := below_setRow8 (k := w2.heap.size) (hbel.alloc hbel.size (.cells (row 16 fun _ => 0) 32)) hbel.size (row 16 Y)
  revert hl hm hbel hlm
  clear hm hbel
  generalize (w2.alloc (.cells (row 16 fun _ => 0) 32)).setRow w2.heap.size (row 16 Y) = w3
  generalize w2.heap.size = gl
  intro hlm hl hm hbel
  refine held_begin (fun w' => Row w' gl 32 16 Y ∧ (∃ cs, cs.size = 33 ∧ Blk w' w.heap.size 34 cs) ∧ Below w.heap.size w w') mixedOrders ⟨hl.drew, ⟨_, mk_size _ _ _, hm.drew⟩, hbel.drew⟩ fun hS => ?_
  clear hl hm hbel
  refine held_take 0 (some 16) rfl (.slice A n c) rfl (by kernel_rfl) (by kernel_rfl) (by kernel_rfl) rfl (fun _ _ _ h => h) (fun w' hS => by go_simp) hS ?_
  simp only [Act.put, List.setIfInBounds_toArray, List.set_cons_zero, List.set_cons_succ]
  refine held_take 1 (some 17) rfl (.agg (row 16 Y)) rfl (by kernel_rfl) (by kernel_rfl) (by kernel_rfl) rfl (fun _ _ _ h => h) (fun w' hS => exec_load_Row 32 _ rfl gl rfl 32 16 _ _ hS.1 und16 size16) hS ?_
  simp only [Act.put, List.setIfInBounds_toArray, List.set_cons_zero, List.set_cons_succ]
  refine held_take 2 (some 18) rfl (.agg (row 16 Y)) rfl (by kernel_rfl) (by kernel_rfl) (by kernel_rfl) rfl (fun _ _ _ h => h) (fun w' hS => exec_load_Row 32 _ rfl gl rfl 32 16 _ _ hS.1 und16 size16) hS ?_
  simp only [Act.put, List.setIfInBounds_toArray, List.set_cons_zero, List.set_cons_succ]
  refine held_call 3 (some 19) rfl 38 #[.agg (row 16 Y)] rfl (by kernel_rfl) rfl (fun w' => by go_simp) ?_
  have hc := odoubled_c Y w3.drew
  rw [← HD.out] at hc
  refine hc.mono ?_
  rintro e w4 ⟨rfl, hb4⟩
  have hS : Row w4 gl 32 16 Y ∧ (∃ cs, cs.size = 33 ∧ Blk w4 w.heap.size 34 cs) ∧ Below w.heap.size w w4 := by
    obtain ⟨h1, ⟨cs, h2, h3⟩, h4⟩ := hS
    exact ⟨h1.below hb4 h1.lt, ⟨cs, h2, h3.below hb4 h3.lt⟩, h4.trans (hb4.mono h4.size)⟩
  clear hc hb4
  refine ⟨_, rfl, hS, ?_⟩
  simp only [Act.put, List.setIfInBounds_toArray, List.set_cons_zero, List.set_cons_succ]
  refine held_take 4 (some 20) rfl (.agg (mkRow (.slice A n c) Y D1)) rfl (by kernel_rfl) (by kernel_rfl) (by kernel_rfl) rfl (fun _ _ _ h => h) (fun w' hS => ?_) hS ?_
  · exact exec_build 34 #[(0, Operand.tmp 16), (1, Operand.tmp 17), (2, Operand.tmp 19)] rfl (mkRow (.slice A n c) Y D1) [(0, .slice A n c), (1, .agg (row 16 Y)), (2, .agg (row 16 D1))] (by simp only [List.map_toArray, List.map_cons, List.map_nil]; rfl) (mk_built A n c Y D1) w'
  simp only [Act.put, List.setIfInBounds_toArray, List.set_cons_zero, List.set_cons_succ]
  obtain ⟨h1, ⟨cs, h2, h3⟩, h4⟩ := hS
  refine held_store_cells 5 rfl rfl (by kernel_rfl) rfl 34 _ _ rfl w.heap.size rfl 34 cs (mkRow (.slice A n c) Y D1) rfl h3 (by rw [mk_size]; exact sizeMk) (by rw [mk_size, h2]) (mk_one _ _ _ _ _) ⟨⟨h1.setRow_far (by omega) _, ⟨_, mk_size _ _ _, h3.setRow _⟩, below_setRow8 h4 (Nat.le_refl _) _⟩, ?_⟩
  have hS : Row (w4.setRow w.heap.size (mkRow (.slice A n c) Y D1)) gl 32 16 Y ∧ (∃ cs, cs.size = 33 ∧ Blk (w4.setRow w.heap.size (mkRow (.slice A n c) Y D1)) w.heap.size 34 cs) ∧ Below w.heap.size w (w4.setRow w.heap.size (mkRow (.slice A n c) Y D1)) := ⟨h1.setRow_far (by omega) _, ⟨_, mk_size _ _ _, h3.setRow _⟩, below_setRow8 h4 (Nat.le_refl _) _⟩
  have hm := h3.setRow (mkRow (.slice A n c) Y D1)
  revert hS hm
  clear h1 h3 h4
  generalize w4.setRow w.heap.size (mkRow (.slice A n c) Y D1) = w5
  intro hS hm
  refine held_take 6 (some 3) rfl (.int .i64 0) rfl (by kernel_rfl) (by kernel_rfl) (by kernel_rfl) rfl (fun _ _ _ h => h) (fun w' hS => by go_simp) hS ?_
  simp only [Act.put, List.setIfInBounds_toArray, List.set_cons_zero, List.set_cons_succ]
  refine held_end (by kernel_rfl) ?_
  go_wp2
  exact ret_Blk_tmp rfl rfl _ _ _ undMk (.int .i64 0) rfl rfl hm (by rw [mk_size]; exact sizeMk) ⟨rfl, hS.2.2⟩

set_option maxHeartbeats 2000000 in
theorem newMasks_bad (A : Option Addr) (n c : Nat) (w : World) (h1 : n ≠ 16) (h2 : n ≠ 32) :
    Calls Tryd.prog 22 #[.slice A n c] w fun e w' => e = .returned (.tuple #[.agg (mkRow (.slice none 0 0) (fun _ => 0) fun _ => 0), .int .i64 1]) ∧ Below w.heap.size w w' := by
  go_enter Tryd.func22, Tryd.ntmps22
  go_upto_region 1 with (fail)
  have hm : Blk (w.alloc (.cells (mkRow (.slice none 0 0) (fun _ => 0) fun _ => 0) 34)) w.heap.size 34 (mkRow (.slice none 0 0) (fun _ => 0) fun _ => 0) := Blk.new w _ _
  rw [mk0]
  have hbel : Below w.heap.size w (w.alloc (.cells (mkRow (.slice none 0 0) (fun _ => 0) fun _ => 0) 34)) := (Below.refl _ _).alloc (Nat.le_refl _) _
  revert hm hbel
  generalize w.alloc (.cells (mkRow (.slice none 0 0) (fun _ => 0) fun _ => 0) 34) = w1
  intro hm hbel
  go_wp2_with (fail)
  rw [zero16]
  refine (Encrypt_bad A n c (fun _ => 0) w1 h1 h2).mono ?_
  rintro e w2 ⟨rfl, hb2⟩
  have hm := hm.below hb2 hm.lt
  have hbel := hbel.trans (hb2.mono hbel.size)
  clear hb2 h1 h2
  have hlm := hm.lt
  have hm3 := (hm.alloc (.cells (row 16 fun _ => 0) 32)).setRow_far (k := w2.heap.size) (by omega) (row 16 fun _ => 0)
  have hbel3 := below_setRow8 (k := w2.heap.size) (hbel.alloc hbel.size (.cells (row 16 fun _ => 0) 32)) hbel.size (row 16 fun _ => 0)
  go_wp2_with (first | (refine wpList_alloc_Row rfl 32 rfl 16 zero16z ?_) | (refine wpList_store_Row rfl 32 _ _ rfl w2.heap.size rfl 32 16 (fun _ => 0) _ rfl (Row.new _ _ _ _) size16 ?_) | (refine wpList_store_row rfl 34 _ _ rfl w.heap.size (mkRow (.slice none 0 0) (fun _ => 0) fun _ => 0) rfl rfl 34 _ hm3 (by rw [mk_size]; exact sizeMk) rfl (mk_one _ _ _ _ _) ?_))
  exact ret_Blk_tmp rfl rfl _ _ _ undMk (.int .i64 1) rfl rfl (hm3.setRow _) (by rw [mk_size]; exact sizeMk) ⟨rfl, below_setRow8 hbel3 (Nat.le_refl _) _⟩
end Go.Proofs.YtajifdnfibojfaaDoor

namespace Go.Proofs.YtajifdnfibojfaaDoor
open Go Go.RowKit
set_option maxRecDepth 100000

/-- A nonce of n bytes as a block. -/
def nonB (n : Nat) (f : Nat → UInt8) : Nat → UInt8 := fun j => if j < 15 - n then 0 else if j = 15 - n then 1 else f (j - (16 - n))
/-- The block without its last six bits. -/
def topB (b : Nat → UInt8) : Nat → UInt8 := fun j => if j = 15 then b 15 &&& 192 else b j
/-- The first offset. -/
def offB (E : (Nat → UInt8) → Nat → UInt8) (n : Nat) (f : Nat → UInt8) : Nat → UInt8 := cutB (strB (E (topB (nonB n f)))) (f (n - 1) &&& 63).toNat

theorem isRow_desc {P : Program} {ty : TypeId} (hdd : (P.underlying ty).map (·.isRow) = some true) : ∃ d, P.underlying ty = some d ∧ d.isRow = true := by
  cases h : P.underlying ty with
  | none => rw [h] at hdd; cases hdd
  | some d =>
    rw [h] at hdd
    exact ⟨d, rfl, Option.some.inj hdd⟩
/-- A struct read whole. -/
theorem wpList_load_Blk {P : Program} {w : World} {ops : Array Oper} {rest : List Oper} {o : Oper} {a : Act} {Q : Exit → Act → World → Prop} (hgd : o.guard = none) (ty : TypeId) (x : Operand) (ho : o.op = .load ty x)
    (g : Nat) (hx : a.eval x = .pointer (some ⟨g, 0, none⟩)) (t : TypeId) (cs : Array Value) (hg : Blk w g t cs) (hdd : (P.underlying ty).map (·.isRow) = some true) (hi : (P.info? ty).map (·.size) = some cs.size)
    (h : wpList P ops Q rest (a.put o.dst (.agg cs)) w) : wpList P ops Q (o :: rest) a w := by
  obtain ⟨d, hu, hdr⟩ := isRow_desc hdd
  exact wpList_plain hgd fun _ hK => wp_load_row ty x ho g hx t cs (0, 0) d hg hu (by cases d <;> first | rfl | cases hdr) hi (hK _ _ h)
theorem u8_all {Q : UInt8 → Prop} (h : ∀ n : Fin 256, Q (UInt8.ofNat n.val)) (x : UInt8) : Q x := by
  have := h ⟨x.toNat, x.toNat_lt⟩
  simpa using this
theorem and63_int (x : UInt8) : bits .and .u8 (x.toNat : Int) 63 = ((x &&& 63).toNat : Int) := u8_all (Q := fun x => bits .and .u8 (x.toNat : Int) 63 = ((x &&& 63).toNat : Int)) (by decide +kernel) x
theorem andn63_int (x : UInt8) : bits .andNot .u8 (x.toNat : Int) 63 = ((x &&& 192).toNat : Int) := u8_all (Q := fun x => bits .andNot .u8 (x.toNat : Int) 63 = ((x &&& 192).toNat : Int)) (by decide +kernel) x
theorem and63_lt (x : UInt8) : (x &&& 63).toNat < 64 := u8_all (Q := fun x => (x &&& 63).toNat < 64) (by decide +kernel) x

set_option maxHeartbeats 2000000 in
theorem first_c (A : Option Addr) (n c : Nat) (E D : (Nat → UInt8) → Nat → UInt8) (st dl : Nat → UInt8) (g off k kc : Nat) (f : Nat → UInt8) (w : World) (hcap : Cap A n c E D w) (hk : 0 < k) (hk2 : k < 16)
    (hd : ∀ j, j < k → w.cell? ⟨g, off + j, none⟩ = some (.int .u8 ((f j).toNat : Int))) :
    Calls Tryd.prog 13 #[.agg (mkRow (.slice A n c) st dl), .slice (some ⟨g, off, none⟩) k kc] w fun e w' => e = .returned (.agg (row 16 (offB E k f))) ∧ Below w.heap.size w w' := by
  have HC := Lib.hid hcap
  clear hcap
  go_enter Tryd.func13, Tryd.ntmps13
  go_upto_region 3 with (fail)
  rw [zero16]
  have hm : Blk (((w.alloc (.cells (mkRow (.slice A n c) st dl) 34)).alloc (.cells (row 16 fun _ => 0) 32)).alloc (.cells (row 16 fun _ => 0) 32)) w.heap.size 34 (mkRow (.slice A n c) st dl) := ((Blk.new w _ _).alloc _).alloc _
  have hr := (Row.new (w.alloc (.cells (mkRow (.slice A n c) st dl) 34)) 32 16 (fun _ => 0)).alloc (.cells (row 16 fun _ => 0) 32)
  have hx := Row.new ((w.alloc (.cells (mkRow (.slice A n c) st dl) 34)).alloc (.cells (row 16 fun _ => 0) 32)) 32 16 (fun _ => 0)
  have hbel : Below w.heap.size w (((w.alloc (.cells (mkRow (.slice A n c) st dl) 34)).alloc (.cells (row 16 fun _ => 0) 32)).alloc (.cells (row 16 fun _ => 0) 32)) := (((Below.refl _ _).alloc (Nat.le_refl _) _).alloc (by simp) _).alloc (by simp; omega) _
  simp only [World.size_alloc] at hr hx
  revert hm hr hx hbel
  generalize ((w.alloc (.cells (mkRow (.slice A n c) st dl) 34)).alloc (.cells (row 16 fun _ => 0) 32)).alloc (.cells (row 16 fun _ => 0) 32) = w1
  intro hm hbel hr hx
  obtain ⟨p, hp⟩ : ∃ p, p + 1 + k = 16 := ⟨15 - k, by omega⟩
  have hp15 : p < 15 := by omega
  rw [show (16 - (k : Int)) = ((p + 1 : Nat) : Int) by omega]
  have HP := Lib.hid hp
  have hgw : g < w.heap.size := block_lt_of_cell (hd 0 hk)
  have hd2 : ∀ j, j < k → w1.cell? ⟨g, off + j, none⟩ = some (.int .u8 ((f j).toNat : Int)) := fun j hj => (hbel.cell (p := ⟨g, off + j, none⟩) hgw).trans (hd j hj)
  clear hp hd
  have e1 := hx.cell p (by omega)
  have e2 := hx.frozen p
  go_upto_region 4 with (fail)
  clear e1 e2
  have hx2 := hx.set_ p 1
  have hr2 := hr.far (p := ⟨w.heap.size + 1 + 1, p, none⟩) (by simp) (.int .u8 (((1 : UInt8).toNat : Nat) : Int))
  have hm2 := hm.far (p := ⟨w.heap.size + 1 + 1, p, none⟩) (by simp; omega) (.int .u8 (((1 : UInt8).toNat : Nat) : Int))
  have hb2 := hbel.setCell (p := ⟨w.heap.size + 1 + 1, p, none⟩) (by simp; omega) (.int .u8 (((1 : UInt8).toNat : Nat) : Int))
  have hd3 : ∀ j, j < k → (w1.setCell ⟨w.heap.size + 1 + 1, p, none⟩ (.int .u8 (((1 : UInt8).toNat : Nat) : Int))).cell? ⟨g, off + j, none⟩ = some (.int .u8 ((f j).toNat : Int)) := fun j hj => (World.cell?_of_block (Below.heap_setCell _ _ _ _ (by simp; omega))).trans (hd2 j hj)
  revert hx2 hr2 hm2 hb2 hd3
  clear hd2 hx hr hm hbel
  rw [show (((1 : UInt8).toNat : Nat) : Int) = 1 from rfl]
  generalize w1.setCell ⟨w.heap.size + 1 + 1, p, none⟩ (.int .u8 1) = w2
  intro hx2 hr2 hm2 hb2 hd3
  obtain ⟨N, hN⟩ : ∃ N : Nat → UInt8, N = nonB k f := ⟨_, rfl⟩
  have hNe : row 16 (cpy (p + 1) k (fun j => if j = p then 1 else 0) f) = row 16 N := by
    rw [hN]
    refine row_congr fun j hj => ?_
    have hp := HP.out
    unfold cpy nonB
    by_cases h1 : j < p
    · rw [if_neg (by omega)]
      show (if j = p then (1 : UInt8) else 0) = _
      rw [if_neg (by omega), if_pos (by omega)]
    · by_cases h2 : j = p
      · rw [if_neg (by omega)]
        show (if j = p then (1 : UInt8) else 0) = _
        rw [if_pos h2, if_neg (by omega), if_pos (by omega)]
      · rw [if_pos (by omega), if_neg (by omega), if_neg (by omega)]
        congr 1
        omega
  have HN := Lib.hid hN
  have HNe := Lib.hid hNe
  clear hN hNe
  have i0 : (0 : Int) ≤ (p : Int) + 1 := by omega
  have i1 : (p : Int) + 1 ≤ 16 := by omega
  have i2 : ((p : Int) + 1).toNat = p + 1 := by omega
  have i3 : p + 1 ≤ 16 := by omega
  have i4 : ¬ 16 = p + 1 := by omega
  have i5 : ¬ (p : Int) + 1 < 0 := by omega
  have i6 : ¬ (16 : Int) < (p : Int) + 1 := by omega
  go_upto_region 5 with (refine wpList_copy_Row rfl _ _ 22 22 rfl 5 undB size8 (w.heap.size + 1 + 1) (p + 1) _ _ ⟨g, off, none⟩ k kc rfl rfl 32 16 (fun j => if j = p then 1 else 0) hx2 k f (by have := HP.out; simp [Nat.min_def]; omega) (fun j hj => by rw [Addr.add_mid]; exact hd3 j hj) (by have := HP.out; omega) ?_)
  clear i0 i1 i2 i3 i4 i5 i6 hd3
  rw [HNe.out]
  have hx3 := hx2.setRow N
  have hr3 := hr2.setRow_far (k := w.heap.size + 1 + 1) (by omega) (row 16 N)
  have hm3 := hm2.setRow_far (k := w.heap.size + 1 + 1) (by omega) (row 16 N)
  have hb3 := below_setRow8 hb2 (k := w.heap.size + 1 + 1) (by omega) (row 16 N)
  clear hx2 hr2 hm2 hb2
  revert hx3 hr3 hm3 hb3
  generalize w2.setRow (w.heap.size + 1 + 1) (row 16 N) = w3
  intro hx3 hr3 hm3 hb3
  simp only [Act.put, List.setIfInBounds_toArray, List.set_cons_zero, List.set_cons_succ]
  have e1 := hx3.cell 15 (by omega)
  obtain ⟨bt, hbt⟩ : ∃ bt : Nat, bt = (N 15 &&& 63).toNat := ⟨_, rfl⟩
  obtain ⟨v, hv⟩ : ∃ v : UInt8, v = N 15 &&& 192 := ⟨_, rfl⟩
  have ea := and63_int (N 15)
  have eb := andn63_int (N 15)
  have hb64 := and63_lt (N 15)
  rw [← hbt] at ea hb64
  rw [← hv] at eb
  have HB := Lib.hid hbt
  have HV := Lib.hid hv
  clear hbt hv
  have e3 := hx3.frozen 15
  go_upto_region 7 with (fail)
  clear e1 ea eb e3
  obtain ⟨M, hM⟩ : ∃ M : Nat → UInt8, M = topB N := ⟨_, rfl⟩
  have hx4 := hx3.set_ 15 v
  rw [show (fun j => if j = 15 then v else N j) = M by rw [hM, HV.out]; rfl] at hx4
  have HM := Lib.hid hM
  clear hM
  have hr4 := hr3.far (p := ⟨w.heap.size + 1 + 1, 15, none⟩) (by simp) (.int .u8 (v.toNat : Int))
  have hm4 := hm3.far (p := ⟨w.heap.size + 1 + 1, 15, none⟩) (by simp; omega) (.int .u8 (v.toNat : Int))
  have hb4 := hb3.setCell (p := ⟨w.heap.size + 1 + 1, 15, none⟩) (by simp; omega) (.int .u8 (v.toNat : Int))
  clear hx3 hr3 hm3 hb3
  revert hx4 hr4 hm4 hb4
  generalize w3.setCell ⟨w.heap.size + 1 + 1, 15, none⟩ (.int .u8 (v.toNat : Int)) = w4
  intro hx4 hr4 hm4 hb4
  go_wp2_with (first | (refine wpList_load_Blk rfl 34 _ rfl w.heap.size rfl 34 _ hm4 undMk (by rw [mk_size]; exact sizeMk) ?_) | (refine wpList_load_Row rfl 32 _ rfl (w.heap.size + 1 + 1) rfl 32 16 M _ hx4 und16 size16 ?_) | (go_at_fn 15))
  refine (menc_c A n c E D st dl M w4 (HC.out.below hb4)).mono ?_
  rintro e w5 ⟨rfl, hb5⟩
  have hr5 := hr4.below hb5 hr4.lt
  have hb5 := hb4.trans (hb5.mono hb4.size)
  clear hx4 hr4 hm4 hb4
  obtain ⟨X, hX⟩ : ∃ X : Nat → UInt8, X = E M := ⟨_, rfl⟩
  rw [← hX]
  have HX := Lib.hid hX
  clear hX
  go_wp2_with (go_at_fn 24)
  refine (stretched_c X w5).mono ?_
  rintro e w6 ⟨rfl, hb6⟩
  have hr6 := hr5.below hb6 hr5.lt
  have hb6 := hb5.trans (hb6.mono hb5.size)
  clear hr5 hb5
  obtain ⟨Z, hZ⟩ : ∃ Z : Nat → UInt8, Z = strB X := ⟨_, rfl⟩
  rw [← hZ]
  have HZ := Lib.hid hZ
  clear hZ
  go_wp2_with (go_at_fn 23)
  refine (cutFrom_c Z bt w6 hb64).mono ?_
  rintro e w7 ⟨rfl, hb7⟩
  have hr7 := hr6.below hb7 hr6.lt
  have hb7 := hb6.trans (hb7.mono hb6.size)
  clear hr6 hb6
  obtain ⟨V, hV⟩ : ∃ V : Nat → UInt8, V = cutB Z bt := ⟨_, rfl⟩
  rw [← hV]
  have HVV := Lib.hid hV
  clear hV
  go_wp2_with (first | (refine wpList_store_Row rfl 32 _ _ rfl (w.heap.size + 1) rfl 32 16 (fun _ => 0) V rfl hr7 size16 ?_))
  refine ret_Row rfl rfl _ _ 16 _ _ rfl (hr7.setRow _) und16 size16 ⟨?_, below_setRow8 hb7 (by omega) _⟩
  rw [HVV.out, HZ.out, HX.out, HM.out, HB.out, HN.out]
  unfold offB
  rw [show nonB k f 15 = f (k - 1) by
    have hp := HP.out
    unfold nonB
    rw [if_neg (by omega), if_neg (by omega)]
    congr 1
    omega]
end Go.Proofs.YtajifdnfibojfaaDoor
