/- AesWraps: any key and bytes are wrapped, and any bytes unwrapped, as the document says: the walk. -/
import Derived.Test.YtcpfiimbobijlaaDoorOut
namespace Go.Proofs.YtcpfiimbobijlaaDoor
open Go Go.RowKit
set_option maxRecDepth 100000

set_option maxHeartbeats 8000000 in
theorem wraps_walk (A A1 : Option Addr) (n c m c1 : Nat) (er1 er2 : Int) (k1 k2 : Nat) (f1 f2 : Nat → UInt8) (W : World) (hs : Row W 0 48 256 boxF)
    (p1 : ∀ w : World, Below W.heap.size W w → Calls Tryd.prog 18 #[.slice A n c, .slice A1 m c1] w (OutB er1 k1 f1 w)) (r1 : ∀ w : World, Below W.heap.size W w → Calls Tryd.prog 19 #[.slice A n c, .slice A1 m c1] w (OutB er1 k1 f1 w))
    (p2 : ∀ w : World, Below W.heap.size W w → Calls Tryd.prog 20 #[.slice A n c, .slice A1 m c1] w (OutB er2 k2 f2 w)) (r2 : ∀ w : World, Below W.heap.size W w → Calls Tryd.prog 21 #[.slice A n c, .slice A1 m c1] w (OutB er2 k2 f2 w)) :
    Calls Tryd.prog 6 #[.slice A n c, .slice A1 m c1] W fun e w' => e = .returned (.bool true) ∧ Below W.heap.size W w' := by
  have P1 := Lib.hid p1
  have R1 := Lib.hid r1
  have P2 := Lib.hid p2
  have R2 := Lib.hid r2
  clear p1 r1 p2 r2
  go_enter Tryd.func6, Tryd.ntmps6
  go_wp2_with (fail)
  refine (awake_c W hs).mono ?_
  rintro e w1 ⟨rfl, hb⟩
  clear hs
  go_wp2_with (fail)
  refine (P1.out w1 hb).mono ?_
  rintro e w2 ⟨⟨B1, d1, rfl, t1, _⟩, hb1⟩
  have hb := hb.trans (hb1.mono hb.size)
  clear hb1
  go_wp2_with (fail)
  refine (R1.out w2 hb).mono ?_
  rintro e w3 ⟨⟨B2, d2, rfl, t2, _⟩, hb1⟩
  have t1 := t1.below hb1
  have hb := hb.trans (hb1.mono hb.size)
  clear hb1
  go_wp2_with (fail)
  refine (P2.out w3 hb).mono ?_
  rintro e w4 ⟨⟨B3, d3, rfl, t3, _⟩, hb1⟩
  have t1 := t1.below hb1
  have t2 := t2.below hb1
  have hb := hb.trans (hb1.mono hb.size)
  clear hb1
  go_wp2_with (fail)
  refine (R2.out w4 hb).mono ?_
  rintro e w5 ⟨⟨B4, d4, rfl, t4, _⟩, hb1⟩
  have s1 := run_str (t1.below hb1)
  have s2 := run_str (t2.below hb1)
  have s3 := run_str (t3.below hb1)
  have s4 := run_str t4
  have hb := hb.trans (hb1.mono hb.size)
  clear hb1 t1 t2 t3 t4 P1 R1 P2 R2
  go_wp2_with (fail)
  go_ret
  exact ⟨rfl, hb⟩
theorem wraps_all (A A1 : Option Addr) (n c m c1 : Nat) (key dat : Nat → UInt8) (W : World) (hs : Row W 0 48 256 boxF) (hk : Bts W A n c key) (hd : Bts W A1 m c1 dat) (hm : m ≤ 140737488351232) :
    Calls Tryd.prog 6 #[.slice A n c, .slice A1 m c1] W fun e w' => e = .returned (.bool true) ∧ Below W.heap.size W w' := by
  obtain ⟨er1, k1, f1, _, _, p1, r1⟩ := wrap_out A A1 n c m c1 key dat W hs hk hd hm
  obtain ⟨er2, k2, f2, _, p2, r2⟩ := unwrap_out A A1 n c m c1 key dat W hs hk hd hm
  exact wraps_walk A A1 n c m c1 er1 er2 k1 k2 f1 f2 W hs p1 r1 p2 r2

end Go.Proofs.YtcpfiimbobijlaaDoor
