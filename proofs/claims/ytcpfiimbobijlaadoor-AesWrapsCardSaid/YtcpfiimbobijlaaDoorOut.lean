/- What Wrap and Unwrap answer: the program's and the document's alike. -/
import Derived.Test.YtcpfiimbobijlaaDoorRUnwrap
import Derived.Test.YtcpfiimbobijlaaDoorWAny
namespace Go.Proofs.YtcpfiimbobijlaaDoor
open Go Go.RowKit
set_option maxRecDepth 100000

/-- A slice of the n bytes f, and an errno; what was there is as it was. -/
def OutB (er : Int) (n : Nat) (f : Nat → UInt8) (w : World) (e : Ending) (w' : World) : Prop :=
  (∃ A c, e = .returned (.tuple #[.slice A n c, .int .i64 er]) ∧ Bts w' A n c f ∧ (∀ a, A = some a → w.heap.size ≤ a.block)) ∧ Below w.heap.size w w'
theorem OutB.none {w : World} {er : Int} {f : Nat → UInt8} {fn : FuncId} {args : Array Value} (h : Calls Tryd.prog fn args w fun e w' => e = .returned (.tuple #[.slice none 0 0, .int .i64 er]) ∧ Below w.heap.size w w') : Calls Tryd.prog fn args w (OutB er 0 f w) :=
  h.mono fun _ _ ⟨he, hb⟩ => ⟨⟨Option.none, 0, he, ⟨fun h => absurd h (by omega), fun _ => ⟨rfl, rfl⟩, Nat.le_refl _⟩, fun _ h => (by cases h)⟩, hb⟩
theorem OutB.none' {w : World} {er : Int} {f : Nat → UInt8} {fn : FuncId} {args : Array Value} (h : Calls Tryd.prog fn args w fun e w' => e = .returned (.tuple #[.slice Option.none 0 0, .int .i64 er]) ∧ w' = w) : Calls Tryd.prog fn args w (OutB er 0 f w) :=
  OutB.none (h.mono fun _ _ ⟨he, hw⟩ => ⟨he, hw ▸ Below.refl _ _⟩)

theorem RWrap_key (A A1 : Option Addr) (n c m c1 : Nat) (w : World) (h1 : n ≠ 16) (h2 : n ≠ 32) :
    Calls Tryd.prog 19 #[.slice A n c, .slice A1 m c1] w fun e w' => e = .returned (.tuple #[.slice none 0 0, .int .i64 1]) ∧ w' = w := by
  go_enter Tryd.func19, Tryd.ntmps19
  go_wp2_with (first | (go_at_call 30; refine (New_no A n c _ h1 h2).mono ?_; rintro e w' ⟨rfl, hw⟩; have hw := hw.symm; subst hw))
  go_ret2
  exact ⟨rfl, rfl⟩
theorem RWrap_dat16 (key W : Nat → UInt8) (b off c : Nat) (A1 : Option Addr) (m c1 : Nat) (w : World) (hkey : ∀ j, j < 16 → w.cell? ⟨b, off + j, none⟩ = some (.int .u8 ((key j).toNat : Int))) (hW : Sched boxF 4 key W) (_ : m ≤ 140737488351232) (h : ¬ (16 ≤ (m : Int) ∧ (m : Int) ≤ 128 ∧ ((m : Int)) % 8 = 0)) :
    Calls Tryd.prog 19 #[.slice (some ⟨b, off, none⟩) 16 c, .slice A1 m c1] w fun e w' => e = .returned (.tuple #[.slice none 0 0, .int .i64 1]) ∧ Below w.heap.size w w' := by
  by_cases h1 : (m : Int) < 16
  · have e1 : decide ((m : Int) < 16) = true := decide_eq_true h1
    clear h h1
    go_enter Tryd.func19, Tryd.ntmps19
    go_wp2_with (first | (go_at_call 30; refine (New16 key W b off c w hkey hW).mono ?_; rintro e w1 ⟨gc, rfl, hgc, hci, hb⟩; clear hci hgc))
    go_ret2
    exact ⟨rfl, hb⟩
  · have e1 : decide ((m : Int) < 16) = false := decide_eq_false h1
    by_cases h2 : 128 < (m : Int)
    · have e2 : decide (128 < (m : Int)) = true := decide_eq_true h2
      clear h h1 h2
      go_enter Tryd.func19, Tryd.ntmps19
      go_wp2_with (first | (go_at_call 30; refine (New16 key W b off c w hkey hW).mono ?_; rintro e w1 ⟨gc, rfl, hgc, hci, hb⟩; clear hci hgc))
      go_ret2
      exact ⟨rfl, hb⟩
    · have e2 : decide (128 < (m : Int)) = false := decide_eq_false h2
      have e3 : ((m : Int) % 8 != 0) = true := by
        rw [bne_iff_ne]; omega
      clear h h1 h2
      go_enter Tryd.func19, Tryd.ntmps19
      go_wp2_with (first | (go_at_call 30; refine (New16 key W b off c w hkey hW).mono ?_; rintro e w1 ⟨gc, rfl, hgc, hci, hb⟩; clear hci hgc))
      go_ret2
      exact ⟨rfl, hb⟩
theorem RWrap_dat32 (key W : Nat → UInt8) (b off c : Nat) (A1 : Option Addr) (m c1 : Nat) (w : World) (hkey : ∀ j, j < 32 → w.cell? ⟨b, off + j, none⟩ = some (.int .u8 ((key j).toNat : Int))) (hW : Sched boxF 8 key W) (_ : m ≤ 140737488351232) (h : ¬ (16 ≤ (m : Int) ∧ (m : Int) ≤ 128 ∧ ((m : Int)) % 8 = 0)) :
    Calls Tryd.prog 19 #[.slice (some ⟨b, off, none⟩) 32 c, .slice A1 m c1] w fun e w' => e = .returned (.tuple #[.slice none 0 0, .int .i64 1]) ∧ Below w.heap.size w w' := by
  by_cases h1 : (m : Int) < 16
  · have e1 : decide ((m : Int) < 16) = true := decide_eq_true h1
    clear h h1
    go_enter Tryd.func19, Tryd.ntmps19
    go_wp2_with (first | (go_at_call 30; refine (New32 key W b off c w hkey hW).mono ?_; rintro e w1 ⟨gc, rfl, hgc, hci, hb⟩; clear hci hgc))
    go_ret2
    exact ⟨rfl, hb⟩
  · have e1 : decide ((m : Int) < 16) = false := decide_eq_false h1
    by_cases h2 : 128 < (m : Int)
    · have e2 : decide (128 < (m : Int)) = true := decide_eq_true h2
      clear h h1 h2
      go_enter Tryd.func19, Tryd.ntmps19
      go_wp2_with (first | (go_at_call 30; refine (New32 key W b off c w hkey hW).mono ?_; rintro e w1 ⟨gc, rfl, hgc, hci, hb⟩; clear hci hgc))
      go_ret2
      exact ⟨rfl, hb⟩
    · have e2 : decide (128 < (m : Int)) = false := decide_eq_false h2
      have e3 : ((m : Int) % 8 != 0) = true := by
        rw [bne_iff_ne]; omega
      clear h h1 h2
      go_enter Tryd.func19, Tryd.ntmps19
      go_wp2_with (first | (go_at_call 30; refine (New32 key W b off c w hkey hW).mono ?_; rintro e w1 ⟨gc, rfl, hgc, hci, hb⟩; clear hci hgc))
      go_ret2
      exact ⟨rfl, hb⟩

theorem RUnwrap_key (A A1 : Option Addr) (n c m c1 : Nat) (w : World) (h1 : n ≠ 16) (h2 : n ≠ 32) :
    Calls Tryd.prog 21 #[.slice A n c, .slice A1 m c1] w fun e w' => e = .returned (.tuple #[.slice none 0 0, .int .i64 1]) ∧ w' = w := by
  go_enter Tryd.func21, Tryd.ntmps21
  go_wp2_with (first | (go_at_call 30; refine (New_no A n c _ h1 h2).mono ?_; rintro e w' ⟨rfl, hw⟩; have hw := hw.symm; subst hw))
  go_ret2
  exact ⟨rfl, rfl⟩
theorem RUnwrap_dat16 (key W : Nat → UInt8) (b off c : Nat) (A1 : Option Addr) (m c1 : Nat) (w : World) (hkey : ∀ j, j < 16 → w.cell? ⟨b, off + j, none⟩ = some (.int .u8 ((key j).toNat : Int))) (hW : Sched boxF 4 key W) (_ : m ≤ 140737488351232) (h : ¬ (16 ≤ (m : Int) - 8 ∧ (m : Int) - 8 ≤ 128 ∧ ((m : Int) - 8) % 8 = 0)) :
    Calls Tryd.prog 21 #[.slice (some ⟨b, off, none⟩) 16 c, .slice A1 m c1] w fun e w' => e = .returned (.tuple #[.slice none 0 0, .int .i64 1]) ∧ Below w.heap.size w w' := by
  by_cases h1 : (m : Int) < 24
  · have e1 : decide ((m : Int) < 24) = true := decide_eq_true h1
    clear h h1
    go_enter Tryd.func21, Tryd.ntmps21
    go_wp2_with (first | (go_at_call 30; refine (New16 key W b off c w hkey hW).mono ?_; rintro e w1 ⟨gc, rfl, hgc, hci, hb⟩; clear hci hgc))
    go_ret2
    exact ⟨rfl, hb⟩
  · have e1 : decide ((m : Int) < 24) = false := decide_eq_false h1
    by_cases h2 : 136 < (m : Int)
    · have e2 : decide (136 < (m : Int)) = true := decide_eq_true h2
      clear h h1 h2
      go_enter Tryd.func21, Tryd.ntmps21
      go_wp2_with (first | (go_at_call 30; refine (New16 key W b off c w hkey hW).mono ?_; rintro e w1 ⟨gc, rfl, hgc, hci, hb⟩; clear hci hgc))
      go_ret2
      exact ⟨rfl, hb⟩
    · have e2 : decide (136 < (m : Int)) = false := decide_eq_false h2
      have e3 : ((m : Int) % 8 != 0) = true := by
        rw [bne_iff_ne]; omega
      clear h h1 h2
      go_enter Tryd.func21, Tryd.ntmps21
      go_wp2_with (first | (go_at_call 30; refine (New16 key W b off c w hkey hW).mono ?_; rintro e w1 ⟨gc, rfl, hgc, hci, hb⟩; clear hci hgc))
      go_ret2
      exact ⟨rfl, hb⟩
theorem RUnwrap_dat32 (key W : Nat → UInt8) (b off c : Nat) (A1 : Option Addr) (m c1 : Nat) (w : World) (hkey : ∀ j, j < 32 → w.cell? ⟨b, off + j, none⟩ = some (.int .u8 ((key j).toNat : Int))) (hW : Sched boxF 8 key W) (_ : m ≤ 140737488351232) (h : ¬ (16 ≤ (m : Int) - 8 ∧ (m : Int) - 8 ≤ 128 ∧ ((m : Int) - 8) % 8 = 0)) :
    Calls Tryd.prog 21 #[.slice (some ⟨b, off, none⟩) 32 c, .slice A1 m c1] w fun e w' => e = .returned (.tuple #[.slice none 0 0, .int .i64 1]) ∧ Below w.heap.size w w' := by
  by_cases h1 : (m : Int) < 24
  · have e1 : decide ((m : Int) < 24) = true := decide_eq_true h1
    clear h h1
    go_enter Tryd.func21, Tryd.ntmps21
    go_wp2_with (first | (go_at_call 30; refine (New32 key W b off c w hkey hW).mono ?_; rintro e w1 ⟨gc, rfl, hgc, hci, hb⟩; clear hci hgc))
    go_ret2
    exact ⟨rfl, hb⟩
  · have e1 : decide ((m : Int) < 24) = false := decide_eq_false h1
    by_cases h2 : 136 < (m : Int)
    · have e2 : decide (136 < (m : Int)) = true := decide_eq_true h2
      clear h h1 h2
      go_enter Tryd.func21, Tryd.ntmps21
      go_wp2_with (first | (go_at_call 30; refine (New32 key W b off c w hkey hW).mono ?_; rintro e w1 ⟨gc, rfl, hgc, hci, hb⟩; clear hci hgc))
      go_ret2
      exact ⟨rfl, hb⟩
    · have e2 : decide (136 < (m : Int)) = false := decide_eq_false h2
      have e3 : ((m : Int) % 8 != 0) = true := by
        rw [bne_iff_ne]; omega
      clear h h1 h2
      go_enter Tryd.func21, Tryd.ntmps21
      go_wp2_with (first | (go_at_call 30; refine (New32 key W b off c w hkey hW).mono ?_; rintro e w1 ⟨gc, rfl, hgc, hci, hb⟩; clear hci hgc))
      go_ret2
      exact ⟨rfl, hb⟩

theorem wrap_out (A A1 : Option Addr) (n c m c1 : Nat) (key dat : Nat → UInt8) (W : World) (hs : Row W 0 48 256 boxF) (hk : Bts W A n c key) (hd : Bts W A1 m c1 dat) (hm : m ≤ 140737488351232) :
    ∃ (er : Int) (k : Nat) (f : Nat → UInt8), (er = 0 ∨ er = 1) ∧ k ≤ 136 ∧ (∀ w, Below W.heap.size W w → Calls Tryd.prog 18 #[.slice A n c, .slice A1 m c1] w (OutB er k f w)) ∧ (∀ w, Below W.heap.size W w → Calls Tryd.prog 19 #[.slice A n c, .slice A1 m c1] w (OutB er k f w)) := by
  by_cases h1 : n = 16
  · subst h1
    obtain ⟨b, off, rfl, hc⟩ := hk.1 (by omega)
    obtain ⟨W4, hW4⟩ := sched_exists boxF 4 key (by omega)
    have hlt : b < W.heap.size := block_lt_of_cell (hc 0 (by omega))
    have hc2 : ∀ w : World, Below W.heap.size W w → ∀ j, j < 16 → w.cell? ⟨b, off + j, none⟩ = some (.int .u8 ((key j).toNat : Int)) := fun w hb j hj => (hb.cell (p := ⟨b, off + j, none⟩) hlt).trans (hc j hj)
    by_cases hok : 16 ≤ (m : Int) ∧ (m : Int) ≤ 128 ∧ (m : Int) % 8 = 0
    · obtain ⟨b1, o1, rfl, hdc⟩ := hd.1 (by omega)
      have hlt1 : b1 < W.heap.size := block_lt_of_cell (hdc 0 (by omega))
      have hpr := fun w (hb : Below W.heap.size W w) => Wrap16 boxF key W4 dat b off c b1 o1 m c1 w (hs.below hb hs.lt) (hc2 w hb) hW4 (by omega) (by omega) (by omega) (fun j hj => (hb.cell (p := ⟨b1, o1 + j, none⟩) hlt1).trans (hdc j hj))
      have hrf := fun w (hb : Below W.heap.size W w) => RWrap16 key W4 dat b off c b1 o1 m c1 w (hc2 w hb) hW4 (by omega) (by omega) (by omega) (hd.below hb)
      generalize (wrapR (Go.Proofs.YtcpfiimbobijlaaDoor.enc boxF 10 W4) m (fun _ => 166) dat (6 * (m / 8))).1 = UA at hpr hrf
      generalize (wrapR (Go.Proofs.YtcpfiimbobijlaaDoor.enc boxF 10 W4) m (fun _ => 166) dat (6 * (m / 8))).2 = UP at hpr hrf
      refine ⟨0, 8 + m, bothF UA UP, .inl rfl, by omega, fun w hb => (hpr w hb).mono ?_, fun w hb => (hrf w hb).mono ?_⟩
      · rintro e w' ⟨g, rfl, hg, hr, hb'⟩
        exact ⟨⟨_, _, rfl, Bts.of_cells (fun j hj => by rw [Nat.zero_add]; exact hr.cell j hj) (Nat.le_refl _), fun a ha => by obtain rfl := Option.some.inj ha; exact hg⟩, hb'⟩
      · rintro e w' ⟨g, cp, rfl, hg, hr, hcp, hb'⟩
        exact ⟨⟨_, _, rfl, Bts.of_cells (fun j hj => by rw [Nat.zero_add]; exact hr.cell j hj) hcp, fun a ha => by obtain rfl := Option.some.inj ha; exact hg⟩, hb'⟩
    · exact ⟨1, 0, fun _ => 0, .inr rfl, by omega, fun w hb => OutB.none' (Wrap_dat16 _ A1 c m c1 w hm hok), fun w hb => OutB.none (RWrap_dat16 key W4 b off c A1 m c1 w (hc2 w hb) hW4 hm hok)⟩
  · by_cases h2 : n = 32
    · subst h2
      obtain ⟨b, off, rfl, hc⟩ := hk.1 (by omega)
      obtain ⟨W4, hW4⟩ := sched_exists boxF 8 key (by omega)
      have hlt : b < W.heap.size := block_lt_of_cell (hc 0 (by omega))
      have hc2 : ∀ w : World, Below W.heap.size W w → ∀ j, j < 32 → w.cell? ⟨b, off + j, none⟩ = some (.int .u8 ((key j).toNat : Int)) := fun w hb j hj => (hb.cell (p := ⟨b, off + j, none⟩) hlt).trans (hc j hj)
      by_cases hok : 16 ≤ (m : Int) ∧ (m : Int) ≤ 128 ∧ (m : Int) % 8 = 0
      · obtain ⟨b1, o1, rfl, hdc⟩ := hd.1 (by omega)
        have hlt1 : b1 < W.heap.size := block_lt_of_cell (hdc 0 (by omega))
        have hpr := fun w (hb : Below W.heap.size W w) => Wrap32 boxF key W4 dat b off c b1 o1 m c1 w (hs.below hb hs.lt) (hc2 w hb) hW4 (by omega) (by omega) (by omega) (fun j hj => (hb.cell (p := ⟨b1, o1 + j, none⟩) hlt1).trans (hdc j hj))
        have hrf := fun w (hb : Below W.heap.size W w) => RWrap32 key W4 dat b off c b1 o1 m c1 w (hc2 w hb) hW4 (by omega) (by omega) (by omega) (hd.below hb)
        generalize (wrapR (Go.Proofs.YtcpfiimbobijlaaDoor.enc boxF 14 W4) m (fun _ => 166) dat (6 * (m / 8))).1 = UA at hpr hrf
        generalize (wrapR (Go.Proofs.YtcpfiimbobijlaaDoor.enc boxF 14 W4) m (fun _ => 166) dat (6 * (m / 8))).2 = UP at hpr hrf
        refine ⟨0, 8 + m, bothF UA UP, .inl rfl, by omega, fun w hb => (hpr w hb).mono ?_, fun w hb => (hrf w hb).mono ?_⟩
        · rintro e w' ⟨g, rfl, hg, hr, hb'⟩
          exact ⟨⟨_, _, rfl, Bts.of_cells (fun j hj => by rw [Nat.zero_add]; exact hr.cell j hj) (Nat.le_refl _), fun a ha => by obtain rfl := Option.some.inj ha; exact hg⟩, hb'⟩
        · rintro e w' ⟨g, cp, rfl, hg, hr, hcp, hb'⟩
          exact ⟨⟨_, _, rfl, Bts.of_cells (fun j hj => by rw [Nat.zero_add]; exact hr.cell j hj) hcp, fun a ha => by obtain rfl := Option.some.inj ha; exact hg⟩, hb'⟩
      · exact ⟨1, 0, fun _ => 0, .inr rfl, by omega, fun w hb => OutB.none' (Wrap_dat32 _ A1 c m c1 w hm hok), fun w hb => OutB.none (RWrap_dat32 key W4 b off c A1 m c1 w (hc2 w hb) hW4 hm hok)⟩
    · exact ⟨1, 0, fun _ => 0, .inr rfl, by omega, fun w hb => OutB.none' (Wrap_key A A1 n c m c1 w h1 h2), fun w hb => OutB.none' (RWrap_key A A1 n c m c1 w h1 h2)⟩

theorem unwrap_out (A A1 : Option Addr) (n c m c1 : Nat) (key dat : Nat → UInt8) (W : World) (hs : Row W 0 48 256 boxF) (hk : Bts W A n c key) (hd : Bts W A1 m c1 dat) (hm : m ≤ 140737488351232) :
    ∃ (er : Int) (k : Nat) (f : Nat → UInt8), k ≤ m ∧ (∀ w, Below W.heap.size W w → Calls Tryd.prog 20 #[.slice A n c, .slice A1 m c1] w (OutB er k f w)) ∧ (∀ w, Below W.heap.size W w → Calls Tryd.prog 21 #[.slice A n c, .slice A1 m c1] w (OutB er k f w)) := by
  by_cases h1 : n = 16
  · subst h1
    obtain ⟨b, off, rfl, hc⟩ := hk.1 (by omega)
    obtain ⟨W4, hW4⟩ := sched_exists boxF 4 key (by omega)
    have hlt : b < W.heap.size := block_lt_of_cell (hc 0 (by omega))
    have hc2 : ∀ w : World, Below W.heap.size W w → ∀ j, j < 16 → w.cell? ⟨b, off + j, none⟩ = some (.int .u8 ((key j).toNat : Int)) := fun w hb j hj => (hb.cell (p := ⟨b, off + j, none⟩) hlt).trans (hc j hj)
    by_cases hok : 16 ≤ (m : Int) - 8 ∧ (m : Int) - 8 ≤ 128 ∧ ((m : Int) - 8) % 8 = 0
    · obtain ⟨b1, o1, rfl, hdc⟩ := hd.1 (by omega)
      obtain ⟨q, rfl⟩ : ∃ q, m = 8 + q := ⟨m - 8, by omega⟩
      have hlt1 : b1 < W.heap.size := block_lt_of_cell (hdc 0 (by omega))
      have hc1 : 8 + q ≤ c1 := hd.2.2
      have hpr := fun w (hb : Below W.heap.size W w) => Unwrap16 boxF key W4 dat (fun j => dat (8 + j)) b off c b1 o1 q c1 w (hs.below hb hs.lt) (hc2 w hb) hW4 (by omega) (by omega) (by omega) hc1 (fun j hj => (hb.cell (p := ⟨b1, o1 + j, none⟩) hlt1).trans (hdc j (by omega))) (fun j hj => by rw [Nat.add_assoc]; exact (hb.cell (p := ⟨b1, o1 + (8 + j), none⟩) hlt1).trans (hdc (8 + j) (by omega)))
      have hrf := fun w (hb : Below W.heap.size W w) => RUnwrap16 key W4 dat b off c b1 o1 q c1 w (hc2 w hb) hW4 (by omega) (by omega) (by omega) (hd.below hb)
      generalize (unR (Go.Proofs.YtcpfiimbobijlaaDoor.dec (bk boxF 256) 10 W4) q (6 * (q / 8)) dat (fun j => dat (8 + j)) (6 * (q / 8))).1 = UA at hpr hrf
      generalize (unR (Go.Proofs.YtcpfiimbobijlaaDoor.dec (bk boxF 256) 10 W4) q (6 * (q / 8)) dat (fun j => dat (8 + j)) (6 * (q / 8))).2 = UP at hpr hrf
      cases hE : eqb 8 UA (fun _ => 166) with
      | true =>
        refine ⟨0, q, UP, by omega, fun w hb => (hpr w hb).mono ?_, fun w hb => (hrf w hb).mono ?_⟩
        · rintro e w' ⟨hb', ⟨_, g, rfl, hg, hr⟩ | ⟨h, _⟩⟩
          · exact ⟨⟨_, _, rfl, Bts.of_cells (fun j hj => by rw [Nat.zero_add]; exact hr.cell j hj) (Nat.le_refl _), fun a ha => by obtain rfl := Option.some.inj ha; exact hg⟩, hb'⟩
          · rw [hE] at h; cases h
        · rintro e w' ⟨hb', ⟨_, g, cp, rfl, hg, hr, hcp⟩ | ⟨h, _⟩⟩
          · exact ⟨⟨_, _, rfl, Bts.of_cells hr hcp, fun a ha => by obtain rfl := Option.some.inj ha; exact hg⟩, hb'⟩
          · rw [hE] at h; cases h
      | false =>
        refine ⟨5, 0, fun _ => 0, by omega, fun w hb => OutB.none ((hpr w hb).mono ?_), fun w hb => OutB.none ((hrf w hb).mono ?_)⟩
        · rintro e w' ⟨hb', ⟨h, _⟩ | ⟨_, rfl⟩⟩
          · rw [hE] at h; cases h
          · exact ⟨rfl, hb'⟩
        · rintro e w' ⟨hb', ⟨h, _⟩ | ⟨_, rfl⟩⟩
          · rw [hE] at h; cases h
          · exact ⟨rfl, hb'⟩
    · exact ⟨1, 0, fun _ => 0, by omega, fun w hb => OutB.none ((Unwrap_dat16 _ A1 c m c1 w hm hok).mono fun _ _ h => ⟨h.1, h.2 ▸ Below.refl _ _⟩), fun w hb => OutB.none (RUnwrap_dat16 key W4 b off c A1 m c1 w (hc2 w hb) hW4 hm hok)⟩
  · by_cases h2 : n = 32
    · subst h2
      obtain ⟨b, off, rfl, hc⟩ := hk.1 (by omega)
      obtain ⟨W4, hW4⟩ := sched_exists boxF 8 key (by omega)
      have hlt : b < W.heap.size := block_lt_of_cell (hc 0 (by omega))
      have hc2 : ∀ w : World, Below W.heap.size W w → ∀ j, j < 32 → w.cell? ⟨b, off + j, none⟩ = some (.int .u8 ((key j).toNat : Int)) := fun w hb j hj => (hb.cell (p := ⟨b, off + j, none⟩) hlt).trans (hc j hj)
      by_cases hok : 16 ≤ (m : Int) - 8 ∧ (m : Int) - 8 ≤ 128 ∧ ((m : Int) - 8) % 8 = 0
      · obtain ⟨b1, o1, rfl, hdc⟩ := hd.1 (by omega)
        obtain ⟨q, rfl⟩ : ∃ q, m = 8 + q := ⟨m - 8, by omega⟩
        have hlt1 : b1 < W.heap.size := block_lt_of_cell (hdc 0 (by omega))
        have hc1 : 8 + q ≤ c1 := hd.2.2
        have hpr := fun w (hb : Below W.heap.size W w) => Unwrap32 boxF key W4 dat (fun j => dat (8 + j)) b off c b1 o1 q c1 w (hs.below hb hs.lt) (hc2 w hb) hW4 (by omega) (by omega) (by omega) hc1 (fun j hj => (hb.cell (p := ⟨b1, o1 + j, none⟩) hlt1).trans (hdc j (by omega))) (fun j hj => by rw [Nat.add_assoc]; exact (hb.cell (p := ⟨b1, o1 + (8 + j), none⟩) hlt1).trans (hdc (8 + j) (by omega)))
        have hrf := fun w (hb : Below W.heap.size W w) => RUnwrap32 key W4 dat b off c b1 o1 q c1 w (hc2 w hb) hW4 (by omega) (by omega) (by omega) (hd.below hb)
        generalize (unR (Go.Proofs.YtcpfiimbobijlaaDoor.dec (bk boxF 256) 14 W4) q (6 * (q / 8)) dat (fun j => dat (8 + j)) (6 * (q / 8))).1 = UA at hpr hrf
        generalize (unR (Go.Proofs.YtcpfiimbobijlaaDoor.dec (bk boxF 256) 14 W4) q (6 * (q / 8)) dat (fun j => dat (8 + j)) (6 * (q / 8))).2 = UP at hpr hrf
        cases hE : eqb 8 UA (fun _ => 166) with
        | true =>
          refine ⟨0, q, UP, by omega, fun w hb => (hpr w hb).mono ?_, fun w hb => (hrf w hb).mono ?_⟩
          · rintro e w' ⟨hb', ⟨_, g, rfl, hg, hr⟩ | ⟨h, _⟩⟩
            · exact ⟨⟨_, _, rfl, Bts.of_cells (fun j hj => by rw [Nat.zero_add]; exact hr.cell j hj) (Nat.le_refl _), fun a ha => by obtain rfl := Option.some.inj ha; exact hg⟩, hb'⟩
            · rw [hE] at h; cases h
          · rintro e w' ⟨hb', ⟨_, g, cp, rfl, hg, hr, hcp⟩ | ⟨h, _⟩⟩
            · exact ⟨⟨_, _, rfl, Bts.of_cells hr hcp, fun a ha => by obtain rfl := Option.some.inj ha; exact hg⟩, hb'⟩
            · rw [hE] at h; cases h
        | false =>
          refine ⟨5, 0, fun _ => 0, by omega, fun w hb => OutB.none ((hpr w hb).mono ?_), fun w hb => OutB.none ((hrf w hb).mono ?_)⟩
          · rintro e w' ⟨hb', ⟨h, _⟩ | ⟨_, rfl⟩⟩
            · rw [hE] at h; cases h
            · exact ⟨rfl, hb'⟩
          · rintro e w' ⟨hb', ⟨h, _⟩ | ⟨_, rfl⟩⟩
            · rw [hE] at h; cases h
            · exact ⟨rfl, hb'⟩
      · exact ⟨1, 0, fun _ => 0, by omega, fun w hb => OutB.none ((Unwrap_dat32 _ A1 c m c1 w hm hok).mono fun _ _ h => ⟨h.1, h.2 ▸ Below.refl _ _⟩), fun w hb => OutB.none (RUnwrap_dat32 key W4 b off c A1 m c1 w (hc2 w hb) hW4 hm hok)⟩
    · exact ⟨1, 0, fun _ => 0, by omega, fun w hb => OutB.none ((Unwrap_key A A1 n c m c1 w h1 h2).mono fun _ _ h => ⟨h.1, h.2 ▸ Below.refl _ _⟩), fun w hb => OutB.none ((RUnwrap_key A A1 n c m c1 w h1 h2).mono fun _ _ h => ⟨h.1, h.2 ▸ Below.refl _ _⟩)⟩
end Go.Proofs.YtcpfiimbobijlaaDoor
