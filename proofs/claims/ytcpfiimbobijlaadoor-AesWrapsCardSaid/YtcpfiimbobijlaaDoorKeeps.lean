/- AesKeeps: what is handed in stays as it is, its spare room too: the walk. -/
import Derived.Test.YtcpfiimbobijlaaDoorWAny
import Derived.Deep.DeepCutAuto
namespace Go.Proofs.YtcpfiimbobijlaaDoor
open Go Go.RowKit
set_option maxRecDepth 100000

theorem both_zero (f g : Nat → UInt8) : both 0 f g = g := by
  funext j
  unfold both
  rw [if_neg (by omega), Nat.sub_zero]
def t123 : Nat → UInt8 := fun j => UInt8.ofNat (j + 1)
def t456 : Nat → UInt8 := fun j => UInt8.ofNat (j + 4)
theorem lit123 : (#[Value.int IntKind.u8 1, Value.int IntKind.u8 2, Value.int IntKind.u8 3] : Array Value) = row 3 t123 := by rfl
theorem lit456 : (#[Value.int IntKind.u8 4, Value.int IntKind.u8 5, Value.int IntKind.u8 6] : Array Value) = row 3 t456 := by rfl
theorem str123 : (⟨#[1, 2, 3]⟩ : ByteArray) = bytesOf 3 t123 := by rfl
theorem str456 : (⟨#[4, 5, 6]⟩ : ByteArray) = bytesOf 3 t456 := by rfl
theorem Bts.alloc {w : World} {A : Option Addr} {n c : Nat} {f : Nat → UInt8} (h : Bts w A n c f) (o : Obj) : Bts (w.alloc o) A n c f := h.below ((Below.refl _ _).alloc (Nat.le_refl _) _)
theorem Own.alloc {w : World} {base n : Nat} {v : Value} {f : Nat → UInt8} (h : Own w base v n f) (o : Obj) : Own (w.alloc o) base v n f := h.below ((Below.refl _ _).alloc (Nat.le_refl _) _)
theorem bts_row (w : World) (n : Nat) (f : Nat → UInt8) : Bts (w.alloc (.cells (row n f) 5)) (some ⟨w.heap.size, 0, none⟩) n n f :=
  Bts.of_cells (fun j hj => by rw [Nat.zero_add]; exact (Row.new w _ n f).cell j hj) (Nat.le_refl _)
theorem Bts.take {w : World} {A : Option Addr} {n k c : Nat} {f g : Nat → UInt8} (h : Bts w A (n + k) c (both n f g)) (hA : A ≠ none) : Bts w A n c f := by
  refine ⟨fun hn => ?_, fun h => absurd h hA, by have := h.2.2; omega⟩
  obtain ⟨b, off, hA, hc⟩ := h.1 (by omega)
  refine ⟨b, off, hA, fun j hj => ?_⟩
  rw [hc j (by omega)]
  unfold both
  rw [if_pos hj]
/-- While the calls are made. -/
def KeepS (W : World) (A A1 : Option Addr) (n c m c1 gK cK gD cD : Nat) (key dat : Nat → UInt8) (w : World) : Prop :=
  Row w 0 48 256 boxF ∧ Bts w (some ⟨gK, 0, none⟩) (n + 3) cK (both n key t123) ∧ Bts w (some ⟨gD, 0, none⟩) (m + 3) cD (both m dat t456) ∧ Bts w A n c key ∧ Bts w A1 m c1 dat ∧ Below W.heap.size W w
theorem KeepS.below {W w w' : World} {A A1 : Option Addr} {n c m c1 gK cK gD cD : Nat} {key dat : Nat → UInt8} (h : KeepS W A A1 n c m c1 gK cK gD cD key dat w) (hb : Below w.heap.size w w') : KeepS W A A1 n c m c1 gK cK gD cD key dat w' := by
  obtain ⟨h1, h2, h3, h4, h5, h6⟩ := h
  exact ⟨h1.below hb h1.lt, h2.below hb, h3.below hb, h4.below hb, h5.below hb, h6.trans (hb.mono h6.size)⟩
theorem KeepS.drew {W w : World} {A A1 : Option Addr} {n c m c1 gK cK gD cD : Nat} {key dat : Nat → UInt8} (h : KeepS W A A1 n c m c1 gK cK gD cD key dat w) : KeepS W A A1 n c m c1 gK cK gD cD key dat w.drew := by
  obtain ⟨h1, h2, h3, h4, h5, h6⟩ := h
  exact ⟨h1.drew, h2.drew, h3.drew, h4.drew, h5.drew, h6.drew⟩

set_option maxHeartbeats 8000000 in
theorem keeps_walk (A A1 : Option Addr) (n c m c1 : Nat) (key dat : Nat → UInt8) (W : World) (hs : Row W 0 48 256 boxF) (hk : Bts W A n c key) (hd : Bts W A1 m c1 dat) (hn : n ≤ 140737488351232) (hm : m ≤ 140737488351232) :
    Calls Tryd.prog 8 #[.slice A n c, .slice A1 m c1] W fun e w' => e = .returned (.bool true) ∧ Below W.heap.size W w' := by
  have hz0 := hs.lt
  go_enter Tryd.func8, Tryd.ntmps8
  go_wp2_with (fail)
  refine (awake_c W hs).mono ?_
  rintro e w1 ⟨rfl, hbA⟩
  have hz1 := hbA.size
  go_upto_region 3 with (fail)
  iterate 7 go_step
  refine wpList_app rfl (.tmp 9) (.tmp 10) rfl W.heap.size _ 0 (fun _ => 0) rfl (Own.new w1 _ hz1 _) A n c key rfl ((hk.below hbA).alloc _) (by omega) (by simp; omega) fun v1 w2 ho hb2 => ?_
  rw [both_zero, Nat.zero_add] at ho
  have hbB := hb2 W.heap.size (Nat.le_refl _) W (hbA.alloc hz1 _)
  clear hb2 hz1 hbA
  have hz2 := hbB.size
  simp only [Act.put, List.setIfInBounds_toArray, List.set_cons_zero, List.set_cons_succ]
  iterate 3 go_step
  rw [lit123]
  refine wpList_app rfl (.tmp 11) (.tmp 12) rfl W.heap.size _ n key rfl (ho.alloc _) _ 3 3 t123 rfl (bts_row w2 3 t123) (by omega) (by simp; omega) fun v2 w3 hoK hb2 => ?_
  have hbC := hb2 W.heap.size (Nat.le_refl _) W (hbB.alloc hz2 _)
  clear hb2 ho hz2 hbB
  have hz3 := hbC.size
  simp only [Act.put, List.setIfInBounds_toArray, List.set_cons_zero, List.set_cons_succ]
  iterate 6 go_step
  refine wpList_app rfl (.tmp 14) (.tmp 15) rfl w3.heap.size _ 0 (fun _ => 0) rfl (Own.new w3 _ (Nat.le_refl _) _) A1 m c1 dat rfl ((hd.below hbC).alloc _) (by omega) (by simp) fun v3 w4 ho hb2 => ?_
  rw [both_zero, Nat.zero_add] at ho
  have hbD := hb2 W.heap.size hz3 W (hbC.alloc hz3 _)
  have hb4 := hb2 w3.heap.size (Nat.le_refl _) w3 ((Below.refl _ _).alloc (Nat.le_refl _) _)
  clear hb2
  have hz4 := hb4.size
  simp only [Act.put, List.setIfInBounds_toArray, List.set_cons_zero, List.set_cons_succ]
  iterate 3 go_step
  rw [lit456]
  refine wpList_app rfl (.tmp 16) (.tmp 17) rfl w3.heap.size _ m dat rfl (ho.alloc _) _ 3 3 t456 rfl (bts_row w4 3 t456) (by omega) (by simp; omega) fun v4 w5 hoD hb2 => ?_
  have hbE := hb2 W.heap.size hz3 W (hbD.alloc (by omega) _)
  have hb5 := hb2 w3.heap.size (Nat.le_refl _) w3 (hb4.alloc hz4 _)
  clear hb2 hb4 ho hz4 hbD
  have hoK := hoK.below hb5
  clear hb5 hz3 hbC
  obtain ⟨AK, cK, rfl, hK, hcK, hAK⟩ := hoK.bts
  obtain ⟨AD, cD, rfl, hD, hcD, hAD⟩ := hoD.bts
  clear hoK hoD
  have hs5 := hs.below hbE hz0
  have hk5 := hk.below hbE
  have hd5 := hd.below hbE
  clear hs hk hd
  simp only [Act.put, List.setIfInBounds_toArray, List.set_cons_zero, List.set_cons_succ]
  obtain ⟨gK, rfl⟩ : ∃ g, AK = some ⟨g, 0, none⟩ := by
    obtain ⟨b, off, hA, _⟩ := hK.1 (by omega)
    obtain ⟨g, hg, _⟩ := hAK _ hA
    exact ⟨g, by rw [hA, hg]⟩
  obtain ⟨gD, rfl⟩ : ∃ g, AD = some ⟨g, 0, none⟩ := by
    obtain ⟨b, off, hA, _⟩ := hD.1 (by omega)
    obtain ⟨g, hg, _⟩ := hAD _ hA
    exact ⟨g, by rw [hA, hg]⟩
  have hcK1 := hK.2.2
  have hcD1 := hD.2.2
  have hS : KeepS W A A1 n c m c1 gK cK gD cD key dat w5 := ⟨hs5, hK, hD, hk5, hd5, hbE⟩
  clear hs5 hK hD hk5 hd5 hbE hAK hAD
  go_wp2_with (fail)
  refine region_seq (fun w' => KeepS W A A1 n c m c1 gK cK gD cD key dat w') mixedOrders (by kernel_rfl) (by simp) hS.drew ?_
  clear hS
  iterate 8
    refine Seq.next ?_ (Sure.val rfl (fun w' hS => ?_)) ?_
    rotate_left 1
    · clear hS
      have b1 : (n : Int) ≤ (cK : Int) := by omega
      have b2 : (m : Int) ≤ (cD : Int) := by omega
      go_simp
      rfl
    simp only [Act.put, List.setIfInBounds_toArray, List.set_cons_zero, List.set_cons_succ]
  refine Seq.call_last (some 27) rfl rfl 18 #[.slice (some ⟨gK, 0, none⟩) n cK, .slice (some ⟨gD, 0, none⟩) m cD] (fun w' => by go_simp) fun w' hS => ?_
  refine (Wrap_any _ _ n cK m cD key dat w' hS.1 (hS.2.1.take (by simp)) (hS.2.2.1.take (by simp)) hm).mono ?_
  rintro e w6 ⟨⟨v, rfl⟩, hbv⟩
  refine ⟨v, rfl, ?_⟩
  have hS2 := hS.below hbv
  clear hbv hS
  have hS := hS2
  clear hS2
  simp only [Act.put, List.setIfInBounds_toArray, List.set_cons_zero, List.set_cons_succ]
  go_wp2_with (fail)
  refine region_seq (fun w' => KeepS W A A1 n c m c1 gK cK gD cD key dat w') mixedOrders (by kernel_rfl) (by simp) hS.drew ?_
  clear hS
  iterate 8
    refine Seq.next ?_ (Sure.val rfl (fun w' hS => ?_)) ?_
    rotate_left 1
    · clear hS
      have b1 : (n : Int) ≤ (cK : Int) := by omega
      have b2 : (m : Int) ≤ (cD : Int) := by omega
      go_simp
      rfl
    simp only [Act.put, List.setIfInBounds_toArray, List.set_cons_zero, List.set_cons_succ]
  refine Seq.call_last (some 36) rfl rfl 20 #[.slice (some ⟨gK, 0, none⟩) n cK, .slice (some ⟨gD, 0, none⟩) m cD] (fun w' => by go_simp) fun w' hS => ?_
  refine (Unwrap_any _ _ n cK m cD key dat w' hS.1 (hS.2.1.take (by simp)) (hS.2.2.1.take (by simp)) hm).mono ?_
  rintro e w7 ⟨⟨v, rfl⟩, hbv⟩
  refine ⟨v, rfl, ?_⟩
  have hS2 := hS.below hbv
  clear hbv hS
  have hS := hS2
  clear hS2
  simp only [Act.put, List.setIfInBounds_toArray, List.set_cons_zero, List.set_cons_succ]
  go_wp2_with (fail)
  rw [zero16]
  refine (Encrypt_any _ n cK key (fun _ => 0) w7 hS.1 (hS.2.1.take (by simp))).mono ?_
  rintro e w8 ⟨⟨v, rfl⟩, hbv⟩
  have hS2 := hS.below hbv
  clear hbv hS
  have s1 := run_str hS2.2.1
  have s2 := run_str hS2.2.2.2.1
  have s3 := run_str hS2.2.2.1
  have s4 := run_str hS2.2.2.2.2.1
  have a1 : ∀ w : World, (Op.stringOp .add (bytesOf n key) ⟨#[1, 2, 3]⟩).run Tryd.prog w = .ok (.string (bytesOf (n + 3) (both n key t123))) w := fun w => by
    rw [str123, run_string_add_sum w _ _ (by rw [bytesOf_size, bytesOf_size]; omega), bytesOf_append]
  have a2 : ∀ w : World, (Op.stringOp .add (bytesOf m dat) ⟨#[4, 5, 6]⟩).run Tryd.prog w = .ok (.string (bytesOf (m + 3) (both m dat t456))) w := fun w => by
    rw [str456, run_string_add_sum w _ _ (by rw [bytesOf_size, bytesOf_size]; omega), bytesOf_append]
  have hbel := hS2.2.2.2.2.2
  clear hS2
  go_wp2_with (fail)
  go_ret
  exact ⟨rfl, hbel⟩

end Go.Proofs.YtcpfiimbobijlaaDoor
