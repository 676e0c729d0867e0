/- Wrap and Unwrap of package aes, whatever comes in. -/
import Derived.Test.YtcpfiimbobijlaaDoorUnwrap
import Derived.Test.YtcpfiimbobijlaaDoorBytes
import Derived.Test.YtcpfiimbobijlaaDoorAwake
namespace Go.Proofs.YtcpfiimbobijlaaDoor
open Go Go.RowKit
set_option maxRecDepth 100000

theorem may_no (z : Int) (w : World) (h : ¬ (16 ≤ z ∧ z ≤ 128 ∧ z % 8 = 0)) : Calls Tryd.prog 35 #[.int .i64 z] w fun e w' => e = .returned (.bool false) ∧ w' = w := by
  by_cases h1 : 16 ≤ z
  · by_cases h2 : z ≤ 128
    · have e3 : (z % 8 == 0) = false := by simpa using (show ¬ z % 8 = 0 by omega)
      clear h
      go_enter Tryd.func35, Tryd.ntmps35
      go_wp2
      go_ret
      exact ⟨rfl, rfl⟩
    · have e1 : decide (16 ≤ z) = true := decide_eq_true h1
      have e2 : decide (z ≤ 128) = false := decide_eq_false h2
      clear h h1 h2
      go_enter Tryd.func35, Tryd.ntmps35
      go_wp2
      go_ret
      exact ⟨rfl, rfl⟩
  · have e1 : decide (16 ≤ z) = false := decide_eq_false h1
    clear h h1
    go_enter Tryd.func35, Tryd.ntmps35
    go_wp2
    go_ret
    exact ⟨rfl, rfl⟩

theorem Wrap_key (A A1 : Option Addr) (n c m c1 : Nat) (w : World) (h1 : n ≠ 16) (h2 : n ≠ 32) :
    Calls Tryd.prog 18 #[.slice A n c, .slice A1 m c1] w fun e w' => e = .returned (.tuple #[.slice none 0 0, .int .i64 1]) ∧ w' = w := by
  go_enter Tryd.func18, Tryd.ntmps18
  go_wp2_with (first | (go_at_call 27; refine (isKey_no A n c _ h1 h2).mono ?_; rintro e w' ⟨rfl, hw⟩; have hw := hw.symm; subst hw))
  go_ret2
  exact ⟨rfl, rfl⟩
theorem Wrap_dat16 (A A1 : Option Addr) (c m c1 : Nat) (w : World) (_ : m ≤ 140737488351232) (h : ¬ (16 ≤ (m : Int) ∧ (m : Int) ≤ 128 ∧ ((m : Int)) % 8 = 0)) :
    Calls Tryd.prog 18 #[.slice A 16 c, .slice A1 m c1] w fun e w' => e = .returned (.tuple #[.slice none 0 0, .int .i64 1]) ∧ w' = w := by
  have H := Lib.hid h
  clear h
  go_enter Tryd.func18, Tryd.ntmps18
  go_wp2_with (first | (go_at_call 27; refine (isKey16 _ _ _).mono ?_; rintro e w' ⟨rfl, hw⟩; have hw := hw.symm; subst hw) | (go_at_call 35; refine (may_no _ _ H.out).mono ?_; rintro e w' ⟨rfl, hw⟩; have hw := hw.symm; subst hw))
  go_ret2
  exact ⟨rfl, rfl⟩
theorem Wrap_dat32 (A A1 : Option Addr) (c m c1 : Nat) (w : World) (_ : m ≤ 140737488351232) (h : ¬ (16 ≤ (m : Int) ∧ (m : Int) ≤ 128 ∧ ((m : Int)) % 8 = 0)) :
    Calls Tryd.prog 18 #[.slice A 32 c, .slice A1 m c1] w fun e w' => e = .returned (.tuple #[.slice none 0 0, .int .i64 1]) ∧ w' = w := by
  have H := Lib.hid h
  clear h
  go_enter Tryd.func18, Tryd.ntmps18
  go_wp2_with (first | (go_at_call 27; refine (isKey32 _ _ _).mono ?_; rintro e w' ⟨rfl, hw⟩; have hw := hw.symm; subst hw) | (go_at_call 35; refine (may_no _ _ H.out).mono ?_; rintro e w' ⟨rfl, hw⟩; have hw := hw.symm; subst hw))
  go_ret2
  exact ⟨rfl, rfl⟩

theorem Unwrap_key (A A1 : Option Addr) (n c m c1 : Nat) (w : World) (h1 : n ≠ 16) (h2 : n ≠ 32) :
    Calls Tryd.prog 20 #[.slice A n c, .slice A1 m c1] w fun e w' => e = .returned (.tuple #[.slice none 0 0, .int .i64 1]) ∧ w' = w := by
  go_enter Tryd.func20, Tryd.ntmps20
  go_wp2_with (first | (go_at_call 27; refine (isKey_no A n c _ h1 h2).mono ?_; rintro e w' ⟨rfl, hw⟩; have hw := hw.symm; subst hw))
  go_ret2
  exact ⟨rfl, rfl⟩
theorem Unwrap_dat16 (A A1 : Option Addr) (c m c1 : Nat) (w : World) (_ : m ≤ 140737488351232) (h : ¬ (16 ≤ (m : Int) - 8 ∧ (m : Int) - 8 ≤ 128 ∧ ((m : Int) - 8) % 8 = 0)) :
    Calls Tryd.prog 20 #[.slice A 16 c, .slice A1 m c1] w fun e w' => e = .returned (.tuple #[.slice none 0 0, .int .i64 1]) ∧ w' = w := by
  have H := Lib.hid h
  clear h
  go_enter Tryd.func20, Tryd.ntmps20
  go_wp2_with (first | (go_at_call 27; refine (isKey16 _ _ _).mono ?_; rintro e w' ⟨rfl, hw⟩; have hw := hw.symm; subst hw) | (go_at_call 35; refine (may_no _ _ H.out).mono ?_; rintro e w' ⟨rfl, hw⟩; have hw := hw.symm; subst hw))
  go_ret2
  exact ⟨rfl, rfl⟩
theorem Unwrap_dat32 (A A1 : Option Addr) (c m c1 : Nat) (w : World) (_ : m ≤ 140737488351232) (h : ¬ (16 ≤ (m : Int) - 8 ∧ (m : Int) - 8 ≤ 128 ∧ ((m : Int) - 8) % 8 = 0)) :
    Calls Tryd.prog 20 #[.slice A 32 c, .slice A1 m c1] w fun e w' => e = .returned (.tuple #[.slice none 0 0, .int .i64 1]) ∧ w' = w := by
  have H := Lib.hid h
  clear h
  go_enter Tryd.func20, Tryd.ntmps20
  go_wp2_with (first | (go_at_call 27; refine (isKey32 _ _ _).mono ?_; rintro e w' ⟨rfl, hw⟩; have hw := hw.symm; subst hw) | (go_at_call 35; refine (may_no _ _ H.out).mono ?_; rintro e w' ⟨rfl, hw⟩; have hw := hw.symm; subst hw))
  go_ret2
  exact ⟨rfl, rfl⟩

/-- A call that returns, and leaves what was there as it was. -/
def Quiet (w : World) (e : Ending) (w' : World) : Prop := (∃ v, e = .returned v) ∧ Below w.heap.size w w'
theorem Quiet.bad {w : World} {v : Value} {f : FuncId} {args : Array Value} (h : Calls Tryd.prog f args w fun e w' => e = .returned v ∧ w' = w) : Calls Tryd.prog f args w (Quiet w) :=
  h.mono fun _ _ ⟨he, hw⟩ => ⟨⟨v, he⟩, hw ▸ Below.refl _ _⟩
theorem Wrap_any (A A1 : Option Addr) (n c m c1 : Nat) (key dat : Nat → UInt8) (w : World) (hs : Row w 0 48 256 boxF) (hk : Bts w A n c key) (hd : Bts w A1 m c1 dat) (hm : m ≤ 140737488351232) :
    Calls Tryd.prog 18 #[.slice A n c, .slice A1 m c1] w (Quiet w) := by
  have go : ∀ {e : Ending} {w' : World} {M : Nat} {X Y : Nat → UInt8}, Wrapped M X Y w e w' → Quiet w e w' := fun ⟨_, he, _, _, hb⟩ => ⟨⟨_, he⟩, hb⟩
  by_cases hok : 16 ≤ (m : Int) ∧ (m : Int) ≤ 128 ∧ (m : Int) % 8 = 0
  · obtain ⟨b1, o1, rfl, hdc⟩ := hd.1 (by omega)
    by_cases h1 : n = 16
    · subst h1
      obtain ⟨b, off, rfl, hc⟩ := hk.1 (by omega)
      obtain ⟨W4, hW4⟩ := sched_exists boxF 4 key (by omega)
      exact (Wrap16 boxF key W4 dat b off c b1 o1 m c1 w hs hc hW4 (by omega) (by omega) (by omega) hdc).mono fun _ _ h => go h
    · by_cases h2 : n = 32
      · subst h2
        obtain ⟨b, off, rfl, hc⟩ := hk.1 (by omega)
        obtain ⟨W4, hW4⟩ := sched_exists boxF 8 key (by omega)
        exact (Wrap32 boxF key W4 dat b off c b1 o1 m c1 w hs hc hW4 (by omega) (by omega) (by omega) hdc).mono fun _ _ h => go h
      · exact Quiet.bad (Wrap_key A _ n c m c1 w h1 h2)
  · by_cases h1 : n = 16
    · subst h1; exact Quiet.bad (Wrap_dat16 A A1 c m c1 w hm hok)
    · by_cases h2 : n = 32
      · subst h2; exact Quiet.bad (Wrap_dat32 A A1 c m c1 w hm hok)
      · exact Quiet.bad (Wrap_key A _ n c m c1 w h1 h2)
theorem Unwrap_any (A A1 : Option Addr) (n c m c1 : Nat) (key dat : Nat → UInt8) (w : World) (hs : Row w 0 48 256 boxF) (hk : Bts w A n c key) (hd : Bts w A1 m c1 dat) (hm : m ≤ 140737488351232) :
    Calls Tryd.prog 20 #[.slice A n c, .slice A1 m c1] w (Quiet w) := by
  have go : ∀ {e : Ending} {w' : World} {M : Nat} {X Y : Nat → UInt8}, Unwrapped M X Y w e w' → Quiet w e w' := fun {e w' M X Y} h => by
    obtain ⟨hb, h⟩ := h
    refine ⟨?_, hb⟩
    rcases h with ⟨_, g, he, _⟩ | ⟨_, he⟩
    · exact ⟨_, he⟩
    · exact ⟨_, he⟩
  by_cases hok : 16 ≤ (m : Int) - 8 ∧ (m : Int) - 8 ≤ 128 ∧ ((m : Int) - 8) % 8 = 0
  · obtain ⟨b1, o1, rfl, hdc⟩ := hd.1 (by omega)
    obtain ⟨q, rfl⟩ : ∃ q, m = 8 + q := ⟨m - 8, by omega⟩
    have hdq : ∀ j, j < q → w.cell? ⟨b1, o1 + 8 + j, none⟩ = some (.int .u8 ((dat (8 + j)).toNat : Int)) := fun j hj => by rw [Nat.add_assoc]; exact hdc (8 + j) (by omega)
    have hc1 : 8 + q ≤ c1 := hd.2.2
    by_cases h1 : n = 16
    · subst h1
      obtain ⟨b, off, rfl, hc⟩ := hk.1 (by omega)
      obtain ⟨W4, hW4⟩ := sched_exists boxF 4 key (by omega)
      exact (Unwrap16 boxF key W4 dat (fun j => dat (8 + j)) b off c b1 o1 q c1 w hs hc hW4 (by omega) (by omega) (by omega) hc1 (fun j hj => hdc j (by omega)) hdq).mono fun _ _ h => go h
    · by_cases h2 : n = 32
      · subst h2
        obtain ⟨b, off, rfl, hc⟩ := hk.1 (by omega)
        obtain ⟨W4, hW4⟩ := sched_exists boxF 8 key (by omega)
        exact (Unwrap32 boxF key W4 dat (fun j => dat (8 + j)) b off c b1 o1 q c1 w hs hc hW4 (by omega) (by omega) (by omega) hc1 (fun j hj => hdc j (by omega)) hdq).mono fun _ _ h => go h
      · exact Quiet.bad (Unwrap_key A _ n c _ c1 w h1 h2)
  · by_cases h1 : n = 16
    · subst h1; exact Quiet.bad (Unwrap_dat16 A A1 c m c1 w hm hok)
    · by_cases h2 : n = 32
      · subst h2; exact Quiet.bad (Unwrap_dat32 A A1 c m c1 w hm hok)
      · exact Quiet.bad (Unwrap_key A _ n c m c1 w h1 h2)
theorem Encrypt_any (A : Option Addr) (n c : Nat) (key inp : Nat → UInt8) (w : World) (hs : Row w 0 48 256 boxF) (hk : Bts w A n c key) :
    Calls Tryd.prog 14 #[.slice A n c, .agg (row 16 inp)] w (Quiet w) := by
  by_cases h1 : n = 16
  · subst h1
    obtain ⟨b, off, rfl, hc⟩ := hk.1 (by omega)
    obtain ⟨W4, hW4⟩ := sched_exists boxF 4 key (by omega)
    exact (Encrypt16 boxF key W4 inp b off c w hs hc hW4).mono fun _ _ h => ⟨⟨_, h.1⟩, h.2⟩
  · by_cases h2 : n = 32
    · subst h2
      obtain ⟨b, off, rfl, hc⟩ := hk.1 (by omega)
      obtain ⟨W4, hW4⟩ := sched_exists boxF 8 key (by omega)
      exact (Encrypt32 boxF key W4 inp b off c w hs hc hW4).mono fun _ _ h => ⟨⟨_, h.1⟩, h.2⟩
    · exact (Encrypt_bad A n c inp w h1 h2).mono fun _ _ h => ⟨⟨_, h.1⟩, h.2⟩
end Go.Proofs.YtcpfiimbobijlaaDoor
