/- AesUnwraps: what was wrapped is unwrapped; with one byte turned, or by another key, it is judged as the document says: the walk. -/
import Derived.Test.YtcpfiimbobijlaaDoorOut
import Derived.Test.YtcpfiimbobijlaaDoorWMath
import Derived.Deep.DeepCutAuto
namespace Go.Proofs.YtcpfiimbobijlaaDoor
open Go Go.RowKit
set_option maxRecDepth 100000

theorem undU : Tryd.prog.underlying 33 = some (.int .u64) := by kernel_rfl
theorem wrap_case (A A1 : Option Addr) (n c m c1 : Nat) (key dat : Nat → UInt8) (W : World) (hs : Row W 0 48 256 boxF) (hk : Bts W A n c key) (hd : Bts W A1 m c1 dat) (hm : m ≤ 140737488351232) :
    (∀ w, Below W.heap.size W w → Calls Tryd.prog 18 #[.slice A n c, .slice A1 m c1] w (OutB 1 0 (fun _ => 0) w)) ∨
    ∃ X : Nat → UInt8, 16 ≤ m ∧ m ≤ 128 ∧
      (∀ w, Below W.heap.size W w → Calls Tryd.prog 18 #[.slice A n c, .slice A1 m c1] w fun e w' => ∃ g, e = .returned (.tuple #[.slice (some ⟨g, 0, none⟩) (8 + m) (8 + m), .int .i64 0]) ∧ w.heap.size ≤ g ∧ Row w' g 5 (8 + m) X ∧ Below w.heap.size w w') ∧
      (∀ w g, Below W.heap.size W w → Row w g 5 (8 + m) X → Calls Tryd.prog 20 #[.slice A n c, .slice (some ⟨g, 0, none⟩) (8 + m) (8 + m)] w (OutB 0 m dat w)) := by
  by_cases h1 : n = 16
  · subst h1
    obtain ⟨b, off, rfl, hc⟩ := hk.1 (by omega)
    obtain ⟨W4, hW4⟩ := sched_exists boxF 4 key (by omega)
    have hlt : b < W.heap.size := block_lt_of_cell (hc 0 (by omega))
    have hc2 : ∀ w : World, Below W.heap.size W w → ∀ j, j < 16 → w.cell? ⟨b, off + j, none⟩ = some (.int .u8 ((key j).toNat : Int)) := fun w hb j hj => (hb.cell (p := ⟨b, off + j, none⟩) hlt).trans (hc j hj)
    by_cases hok : 16 ≤ (m : Int) ∧ (m : Int) ≤ 128 ∧ (m : Int) % 8 = 0
    · right
      obtain ⟨b1, o1, rfl, hdc⟩ := hd.1 (by omega)
      have hlt1 : b1 < W.heap.size := block_lt_of_cell (hdc 0 (by omega))
      have hpr := fun w (hb : Below W.heap.size W w) => Wrap16 boxF key W4 dat b off c b1 o1 m c1 w (hs.below hb hs.lt) (hc2 w hb) hW4 (by omega) (by omega) (by omega) (fun j hj => (hb.cell (p := ⟨b1, o1 + j, none⟩) hlt1).trans (hdc j hj))
      have hmath := unwrap_wrap (e := Go.Proofs.YtcpfiimbobijlaaDoor.enc boxF 10 W4) (d := Go.Proofs.YtcpfiimbobijlaaDoor.dec (bk boxF 256) 10 W4) (fun _ _ h => E16.dec 10 h) (fun x => dec_enc undo_back 10 (by omega) W4 x) m (6 * (m / 8)) (by omega) (by omega) (fun _ => 166) dat
      generalize (wrapR (Go.Proofs.YtcpfiimbobijlaaDoor.enc boxF 10 W4) m (fun _ => 166) dat (6 * (m / 8))).1 = UA at hpr hmath
      generalize (wrapR (Go.Proofs.YtcpfiimbobijlaaDoor.enc boxF 10 W4) m (fun _ => 166) dat (6 * (m / 8))).2 = UP at hpr hmath
      refine ⟨bothF UA UP, by omega, by omega, fun w hb => hpr w hb, fun w g hb hr => ?_⟩
      refine (Unwrap16 boxF key W4 UA UP b off c g 0 m (8 + m) w (hs.below hb hs.lt) (hc2 w hb) hW4 (by omega) (by omega) (by omega) (Nat.le_refl _) (fun j hj => ?_) (fun j hj => ?_)).mono ?_
      · rw [Nat.zero_add, hr.cell j (by omega)]
        unfold bothF; rw [if_pos hj]
      · rw [Nat.zero_add, hr.cell (8 + j) (by omega)]
        unfold bothF; rw [if_neg (by omega), Nat.add_sub_cancel_left]
      · rintro e w' ⟨hb', ⟨_, g', rfl, hg, hr'⟩ | ⟨h, _⟩⟩
        · exact ⟨⟨_, _, rfl, Bts.of_cells (fun j hj => by rw [Nat.zero_add]; exact (hr'.congr hmath.2).cell j hj) (Nat.le_refl _), fun a ha => by obtain rfl := Option.some.inj ha; exact hg⟩, hb'⟩
        · rw [eqb_true.2 hmath.1] at h; cases h
    · left
      exact fun w hb => OutB.none ((Wrap_dat16 _ A1 c m c1 w hm hok).mono fun _ _ h => ⟨h.1, h.2 ▸ Below.refl _ _⟩)
  · by_cases h2 : n = 32
    · subst h2
      obtain ⟨b, off, rfl, hc⟩ := hk.1 (by omega)
      obtain ⟨W4, hW4⟩ := sched_exists boxF 8 key (by omega)
      have hlt : b < W.heap.size := block_lt_of_cell (hc 0 (by omega))
      have hc2 : ∀ w : World, Below W.heap.size W w → ∀ j, j < 32 → w.cell? ⟨b, off + j, none⟩ = some (.int .u8 ((key j).toNat : Int)) := fun w hb j hj => (hb.cell (p := ⟨b, off + j, none⟩) hlt).trans (hc j hj)
      by_cases hok : 16 ≤ (m : Int) ∧ (m : Int) ≤ 128 ∧ (m : Int) % 8 = 0
      · right
        obtain ⟨b1, o1, rfl, hdc⟩ := hd.1 (by omega)
        have hlt1 : b1 < W.heap.size := block_lt_of_cell (hdc 0 (by omega))
        have hpr := fun w (hb : Below W.heap.size W w) => Wrap32 boxF key W4 dat b off c b1 o1 m c1 w (hs.below hb hs.lt) (hc2 w hb) hW4 (by omega) (by omega) (by omega) (fun j hj => (hb.cell (p := ⟨b1, o1 + j, none⟩) hlt1).trans (hdc j hj))
        have hmath := unwrap_wrap (e := Go.Proofs.YtcpfiimbobijlaaDoor.enc boxF 14 W4) (d := Go.Proofs.YtcpfiimbobijlaaDoor.dec (bk boxF 256) 14 W4) (fun _ _ h => E16.dec 14 h) (fun x => dec_enc undo_back 14 (by omega) W4 x) m (6 * (m / 8)) (by omega) (by omega) (fun _ => 166) dat
        generalize (wrapR (Go.Proofs.YtcpfiimbobijlaaDoor.enc boxF 14 W4) m (fun _ => 166) dat (6 * (m / 8))).1 = UA at hpr hmath
        generalize (wrapR (Go.Proofs.YtcpfiimbobijlaaDoor.enc boxF 14 W4) m (fun _ => 166) dat (6 * (m / 8))).2 = UP at hpr hmath
        refine ⟨bothF UA UP, by omega, by omega, fun w hb => hpr w hb, fun w g hb hr => ?_⟩
        refine (Unwrap32 boxF key W4 UA UP b off c g 0 m (8 + m) w (hs.below hb hs.lt) (hc2 w hb) hW4 (by omega) (by omega) (by omega) (Nat.le_refl _) (fun j hj => ?_) (fun j hj => ?_)).mono ?_
        · rw [Nat.zero_add, hr.cell j (by omega)]
          unfold bothF; rw [if_pos hj]
        · rw [Nat.zero_add, hr.cell (8 + j) (by omega)]
          unfold bothF; rw [if_neg (by omega), Nat.add_sub_cancel_left]
        · rintro e w' ⟨hb', ⟨_, g', rfl, hg, hr'⟩ | ⟨h, _⟩⟩
          · exact ⟨⟨_, _, rfl, Bts.of_cells (fun j hj => by rw [Nat.zero_add]; exact (hr'.congr hmath.2).cell j hj) (Nat.le_refl _), fun a ha => by obtain rfl := Option.some.inj ha; exact hg⟩, hb'⟩
          · rw [eqb_true.2 hmath.1] at h; cases h
      · left
        exact fun w hb => OutB.none ((Wrap_dat32 _ A1 c m c1 w hm hok).mono fun _ _ h => ⟨h.1, h.2 ▸ Below.refl _ _⟩)
    · exact .inl fun w hb => OutB.none ((Wrap_key A A1 n c m c1 w h1 h2).mono fun _ _ h => ⟨h.1, h.2 ▸ Below.refl _ _⟩)

theorem Bts.setCell {w : World} {A : Option Addr} {n c k : Nat} {f : Nat → UInt8} (h : Bts w A n c f) (hA : ∀ a, A = some a → k ≠ a.block) (o : Nat) (u : Value) : Bts (w.setCell ⟨k, o, none⟩ u) A n c f := by
  refine ⟨fun hn => ?_, h.2⟩
  obtain ⟨b, off, hA', hc⟩ := h.1 hn
  have hne := hA _ hA'
  refine ⟨b, off, hA', fun j hj => ?_⟩
  rw [World.cell?_of_block (w := w) (Below.heap_setCell w ⟨k, o, none⟩ u b (by simp; exact fun e => hne e.symm))]
  exact hc j hj

set_option maxHeartbeats 8000000 in
theorem unwraps_bad (A A1 A2 : Option Addr) (n c n1 c1 m c2 : Nat) (z y : Int) (W : World) (hs : Row W 0 48 256 boxF)
    (p1 : ∀ w, Below W.heap.size W w → Calls Tryd.prog 18 #[.slice A n c, .slice A2 m c2] w (OutB 1 0 (fun _ => 0) w)) :
    Calls Tryd.prog 7 #[.slice A n c, .slice A1 n1 c1, .slice A2 m c2, .int .u64 z, .int .u8 y] W fun e w' => e = .returned (.bool true) ∧ Below W.heap.size W w' := by
  have P1 := Lib.hid p1
  clear p1
  go_enter Tryd.func7, Tryd.ntmps7
  go_wp2_with (fail)
  refine (awake_c W hs).mono ?_
  rintro e w1 ⟨rfl, hb⟩
  clear hs
  go_wp2_with (fail)
  refine (P1.out w1 hb).mono ?_
  rintro e w2 ⟨⟨B1, d1, rfl, t1, _⟩, hb1⟩
  have hb := hb.trans (hb1.mono hb.size)
  clear hb1 t1 P1
  go_wp2_with (fail)
  go_ret
  exact ⟨rfl, hb⟩

set_option maxHeartbeats 8000000 in
theorem unwraps_walk (A A1 A2 : Option Addr) (n c n1 c1 m c2 : Nat) (z0 : Nat) (y : UInt8) (key other dat X : Nat → UInt8) (W : World) (hs : Row W 0 48 256 boxF)
    (hk : Bts W A n c key) (ho : Bts W A1 n1 c1 other) (hd : Bts W A2 m c2 dat) (hm1 : 16 ≤ m) (hm2 : m ≤ 128)
    (p1 : ∀ w, Below W.heap.size W w → Calls Tryd.prog 18 #[.slice A n c, .slice A2 m c2] w fun e w' => ∃ g, e = .returned (.tuple #[.slice (some ⟨g, 0, none⟩) (8 + m) (8 + m), .int .i64 0]) ∧ w.heap.size ≤ g ∧ Row w' g 5 (8 + m) X ∧ Below w.heap.size w w')
    (p2 : ∀ w g, Below W.heap.size W w → Row w g 5 (8 + m) X → Calls Tryd.prog 20 #[.slice A n c, .slice (some ⟨g, 0, none⟩) (8 + m) (8 + m)] w (OutB 0 m dat w)) :
    Calls Tryd.prog 7 #[.slice A n c, .slice A1 n1 c1, .slice A2 m c2, .int .u64 (z0 : Int), .int .u8 (y.toNat : Int)] W fun e w' => e = .returned (.bool true) ∧ Below W.heap.size W w' := by
  have P1 := Lib.hid p1
  have P2 := Lib.hid p2
  clear p1 p2
  go_enter Tryd.func7, Tryd.ntmps7
  go_wp2_with (fail)
  refine (awake_c W hs).mono ?_
  rintro e w1 ⟨rfl, hb⟩
  go_wp2_with (fail)
  refine (P1.out w1 hb).mono ?_
  rintro e w2 ⟨g, rfl, hg, hr, hb1⟩
  have hgW : W.heap.size ≤ g := by have := hb.size; omega
  have hb := hb.trans (hb1.mono hb.size)
  clear hb1 hg P1
  go_wp2_with (fail)
  refine (P2.out w2 g hb hr).mono ?_
  rintro e w3 ⟨⟨B1, d1, rfl, t1, _⟩, hb1⟩
  have hr := hr.below hb1 hr.lt
  have hr3 := hr
  have hb := hb.trans (hb1.mono hb.size)
  clear hb1 P2
  have s1 := run_str t1
  have s2 := run_str (hd.below hb)
  go_wp2_with (fail)
  have hrb : ∀ {w : World} {f : Nat → UInt8}, Row w g 5 (8 + m) f → Bts w (some ⟨g, 0, none⟩) (8 + m) (8 + m) f := fun h => Bts.of_cells (fun j hj => by rw [Nat.zero_add]; exact h.cell j hj) (Nat.le_refl _)
  obtain ⟨er2, k2, f2, _, p3, r3⟩ := unwrap_out A1 (some ⟨g, 0, none⟩) n1 c1 (8 + m) (8 + m) other X w3 (hs.below hb hs.lt) (ho.below hb) (hrb hr) (by omega)
  have P3 := Lib.hid p3
  have R3 := Lib.hid r3
  clear p3 r3 s1 s2 t1
  refine (P3.out w3 (Below.refl _ _)).mono ?_
  rintro e w4 ⟨⟨B2, d2, rfl, t2, l2⟩, hb1⟩
  have hr := hr.below hb1 hr.lt
  have hgw4 := hr.lt
  have hb34 := hb1
  have hb := hb.trans (hb1.mono hb.size)
  clear hb1
  go_wp2_with (fail)
  refine (R3.out w4 hb34).mono ?_
  rintro e w5 ⟨⟨B3, d3, rfl, t3, l3⟩, hb1⟩
  have hr := hr.below hb1 hr.lt
  have hb := hb.trans (hb1.mono hb.size)
  have t2 := t2.below hb1
  clear hb1 P3 R3 hb34
  obtain ⟨i, hi⟩ : ∃ i, i = z0 % (8 + m) := ⟨_, rfl⟩
  have hil : i < 8 + m := by rw [hi]; exact Nat.mod_lt _ (by omega)
  have hii : (z0 : Int) % (8 + (m : Int)) = (i : Int) := by rw [hi]; simp
  have hcell := hr.cell i hil
  have hfr := hr.frozen i
  have hy := lt8 y
  have hx := lt8 (X i)
  clear hi
  have hg4 : g < w3.heap.size := hr3.lt
  go_upto_region 12 with (fail)
  have hv : ((((X i).toNat : Int) + (y.toNat : Int)) % 256) = (((X i + y).toNat : Nat) : Int) := by
    rw [UInt8.toNat_add]; omega
  rw [hv]
  clear hv
  obtain ⟨X', hX'⟩ : ∃ X' : Nat → UInt8, X' = fun j => if j = i then X i + y else X j := ⟨_, rfl⟩
  have hr5 : Row (w5.setCell ⟨g, i, none⟩ (.int .u8 ((X i + y).toNat : Int))) g 5 (8 + m) X' := by rw [hX']; exact hr.set_ i (X i + y)
  have hb5 := hb.setCell (p := ⟨g, i, none⟩) hgW (.int .u8 ((X i + y).toNat : Int))
  have t2' := t2.setCell (k := g) (fun a ha => by have := l2 a ha; omega) i (.int .u8 ((X i + y).toNat : Int))
  have t3' := t3.setCell (k := g) (fun a ha => by have := l3 a ha; omega) i (.int .u8 ((X i + y).toNat : Int))
  clear hr hb t2 t3 hcell hfr hX' hr3 l2 l3
  revert hr5 hb5 t2' t3'
  generalize w5.setCell ⟨g, i, none⟩ (.int .u8 ((X i + y).toNat : Int)) = w6
  intro hr hb t2 t3
  obtain ⟨er4, k4, f4, _, p4, r4⟩ := unwrap_out A (some ⟨g, 0, none⟩) n c (8 + m) (8 + m) key X' w6 (hs.below hb hs.lt) (hk.below hb) (hrb hr) (by omega)
  have P4 := Lib.hid p4
  have R4 := Lib.hid r4
  clear p4 r4 hs hk ho hd
  go_wp2_with (fail)
  refine (P4.out w6 (Below.refl _ _)).mono ?_
  rintro e w7 ⟨⟨B4, d4, rfl, t4, _⟩, hb1⟩
  have hb67 := hb1
  have hb := hb.trans (hb1.mono hb.size)
  have t2 := t2.below hb1
  have t3 := t3.below hb1
  clear hb1
  go_wp2_with (fail)
  refine (R4.out w7 hb67).mono ?_
  rintro e w8 ⟨⟨B5, d5, rfl, t5, _⟩, hb1⟩
  have hb := hb.trans (hb1.mono hb.size)
  have s2 := run_str (t2.below hb1)
  have s3 := run_str (t3.below hb1)
  have s4 := run_str (t4.below hb1)
  have s5 := run_str t5
  clear hb1 hb67 t2 t3 t4 t5 P4 R4
  go_wp2_with (fail)
  go_ret
  exact ⟨rfl, hb⟩
theorem unwraps_all (A A1 A2 : Option Addr) (n c n1 c1 m c2 : Nat) (z y : Int) (hz : 0 ≤ z) (hy : 0 ≤ y) (hy2 : y < 256) (key other dat : Nat → UInt8) (W : World) (hs : Row W 0 48 256 boxF)
    (hk : Bts W A n c key) (ho : Bts W A1 n1 c1 other) (hd : Bts W A2 m c2 dat) (hm : m ≤ 140737488351232) :
    Calls Tryd.prog 7 #[.slice A n c, .slice A1 n1 c1, .slice A2 m c2, .int .u64 z, .int .u8 y] W fun e w' => e = .returned (.bool true) ∧ Below W.heap.size W w' := by
  rcases wrap_case A A2 n c m c2 key dat W hs hk hd hm with p1 | ⟨X, hm1, hm2, p1, p2⟩
  · exact unwraps_bad A A1 A2 n c n1 c1 m c2 z y W hs p1
  · have h := unwraps_walk A A1 A2 n c n1 c1 m c2 z.toNat (UInt8.ofNat y.toNat) key other dat X W hs hk ho hd hm1 hm2 p1 p2
    rw [Int.toNat_of_nonneg hz, show (((UInt8.ofNat y.toNat).toNat : Nat) : Int) = y by rw [UInt8.toNat_ofNat']; omega] at h
    exact h

end Go.Proofs.YtcpfiimbobijlaaDoor
