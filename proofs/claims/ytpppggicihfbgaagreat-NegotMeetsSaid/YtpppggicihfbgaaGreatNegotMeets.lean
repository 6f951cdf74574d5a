/- PROVED: 'halyardlaw16.NegotMeets' returns true for any two confs, any two first numbers, and any order, and leaves them as they were. No condition. Written by gen/neg_meets.py. -/
import Derived.Test.YtpppggicihfbgaaGreatNegWd
import Derived.Test.YtpppggicihfbgaaGreatNegWr
import Derived.Test.YtpppggicihfbgaaGreatGNegLn
import Derived.Test.YtpppggicihfbgaaGreatGNegIp
import Derived.Test.YtpppggicihfbgaaGreatGOptOf
import Derived.Test.YtpppggicihfbgaaGreatGPolP
import Derived.Test.YtpppggicihfbgaaGreatGLcoA
import Derived.Test.YtpppggicihfbgaaGreatGLcoC
import Derived.Test.YtpppggicihfbgaaGreatLaw
import Derived.Test.YtpppggicihfbgaaGreatRows
import Derived.SizedLaws
namespace Go.Proofs.YtpppggicihfbgaaGreat.NegotMeets
open Go.ChangeShapes Go.WideShapes Go.ChangeAt Go.RowKit Go.Proofs.YtpppggicihfbgaaGreat.Oct Go.Proofs.YtpppggicihfbgaaGreat.Row Go.Proofs.YtpppggicihfbgaaGreat.Fsm Go.Proofs.YtpppggicihfbgaaGreat.Mem Go.Proofs.YtpppggicihfbgaaGreat.Law Go.Proofs.YtpppggicihfbgaaGreat.Opt Go.Proofs.YtpppggicihfbgaaGreat.Neg
open Go.Proofs.YtpppggicihfbgaaGreat.Pol (Conf mayC canB can_any agreed_any newP wish nz fin Agr CAt boxCD conf_of)
set_option maxRecDepth 100000 in
theorem own : ownKnob Tryz.prog.godebug = none := by kernel_rfl
set_option maxRecDepth 100000 in
theorem laidOut : laidOutB Tryz.prog = true := by kernel_rfl

theorem lok_new {c : Conf} (m : UInt32) (h : mayC c = true) : lcK.ok (newP c m) := ⟨Pol.wish_may m h, h⟩
theorem k_sx (p q : Pol.Po) (h : lcK.ok q) : Sx (kS p q 2) 6 q 1 := ⟨rfl, s6_ok may3 (by decide) (by decide) (by decide) (by decide) h, rfl, rfl, rfl, rfl⟩
theorem ints_more {w W : World} {B : Nat} {A : Option Addr} {n : Nat} {k : IntKind} (h : Ints w B A n k) (hb : Below B w W) (hB : B ≤ W.heap.size) : Ints W W.heap.size A n k := fun j hj => by
  obtain ⟨ad, z, hA, hB', hc, hz⟩ := (h.below hb) j hj
  exact ⟨ad, z, hA, Nat.lt_of_lt_of_le hB' hB, hc, hz⟩
set_option maxHeartbeats 16000000 in
set_option maxRecDepth 100000 in
theorem walk_long (c d : Conf) (m n : UInt32) (A : Option Addr) (N k : Nat) (w : World) (hN : ¬ N ≤ 200) :
    Calls Tryz.prog 3 #[.agg #[Value.int .u16 c.mru.toNat, .bool c.ha, .int .u32 c.accm.toNat, .int .u8 c.auth.toNat, .int .u8 c.takes.toNat, .int .u8 c.can.toNat, .bool c.mg, .bool c.pfc, .bool c.acfc, .int .i64 c.mn], .agg #[Value.int .u16 d.mru.toNat, .bool d.ha, .int .u32 d.accm.toNat, .int .u8 d.auth.toNat, .int .u8 d.takes.toNat, .int .u8 d.can.toNat, .bool d.mg, .bool d.pfc, .bool d.acfc, .int .i64 d.mn], .int .u32 m.toNat, .int .u32 n.toNat, .slice A N k] w fun e w' => e = .returned (.bool true) ∧ Below w.heap.size w w' := by
  have g1 : (200 : Int) < (N : Int) := by omega
  obtain ⟨W, hW0, HW⟩ := boxCD w c d
  have hW : (w.alloc (.cells #[Value.int .u16 c.mru.toNat, .bool c.ha, .int .u32 c.accm.toNat, .int .u8 c.auth.toNat, .int .u8 c.takes.toNat, .int .u8 c.can.toNat, .bool c.mg, .bool c.pfc, .bool c.acfc, .int .i64 c.mn] 25)).alloc (.cells #[Value.int .u16 d.mru.toNat, .bool d.ha, .int .u32 d.accm.toNat, .int .u8 d.auth.toNat, .int .u8 d.takes.toNat, .int .u8 d.can.toNat, .bool d.mg, .bool d.pfc, .bool d.acfc, .int .i64 d.mn] 25) = W := hW0
  clear hW0
  have HB := Lib.hid HW.out.2.2.1
  have HC := Lib.hid HW.out.1
  have HD := Lib.hid HW.out.2.1
  have HC0 := HC
  have HD0 := HD
  have HV := Lib.hid (Below.refl W.heap.size W)
  obtain ⟨c0, c1, c2, c3, c4, c5, c6, c7, c8, c9⟩ := HC.out.all
  obtain ⟨d0, d1, d2, d3, d4, d5, d6, d7, d8, d9⟩ := HD.out.all
  have K1 := Lib.hid (fun w => can_any c d w)
  have K2 := Lib.hid (fun w => can_any d c w)
  clear HW
  go_enter Tryz.func3, Tryz.ntmps3
  go_wp2_with fail
  refine (Neg.alive_any _).mono ?_
  rintro e w9 ⟨rfl, hb⟩
  have HE := Lib.hid (HB.out.trans ((HV.out.trans (hb.mono HV.out.size)).mono HB.out.size))
  clear hb
  go_wp2
  go_ret
  exact ⟨rfl, HE.out⟩

set_option maxHeartbeats 16000000 in
set_option maxRecDepth 100000 in
theorem walk_can1 (c d : Conf) (m n : UInt32) (A : Option Addr) (N k : Nat) (w : World) (hN : N ≤ 200) (h1 : canB c d = false) :
    Calls Tryz.prog 3 #[.agg #[Value.int .u16 c.mru.toNat, .bool c.ha, .int .u32 c.accm.toNat, .int .u8 c.auth.toNat, .int .u8 c.takes.toNat, .int .u8 c.can.toNat, .bool c.mg, .bool c.pfc, .bool c.acfc, .int .i64 c.mn], .agg #[Value.int .u16 d.mru.toNat, .bool d.ha, .int .u32 d.accm.toNat, .int .u8 d.auth.toNat, .int .u8 d.takes.toNat, .int .u8 d.can.toNat, .bool d.mg, .bool d.pfc, .bool d.acfc, .int .i64 d.mn], .int .u32 m.toNat, .int .u32 n.toNat, .slice A N k] w fun e w' => e = .returned (.bool true) ∧ Below w.heap.size w w' := by
  have g1 : ¬ (200 : Int) < (N : Int) := by omega
  obtain ⟨W, hW0, HW⟩ := boxCD w c d
  have hW : (w.alloc (.cells #[Value.int .u16 c.mru.toNat, .bool c.ha, .int .u32 c.accm.toNat, .int .u8 c.auth.toNat, .int .u8 c.takes.toNat, .int .u8 c.can.toNat, .bool c.mg, .bool c.pfc, .bool c.acfc, .int .i64 c.mn] 25)).alloc (.cells #[Value.int .u16 d.mru.toNat, .bool d.ha, .int .u32 d.accm.toNat, .int .u8 d.auth.toNat, .int .u8 d.takes.toNat, .int .u8 d.can.toNat, .bool d.mg, .bool d.pfc, .bool d.acfc, .int .i64 d.mn] 25) = W := hW0
  clear hW0
  have HB := Lib.hid HW.out.2.2.1
  have HC := Lib.hid HW.out.1
  have HD := Lib.hid HW.out.2.1
  have HC0 := HC
  have HD0 := HD
  have HV := Lib.hid (Below.refl W.heap.size W)
  obtain ⟨c0, c1, c2, c3, c4, c5, c6, c7, c8, c9⟩ := HC.out.all
  obtain ⟨d0, d1, d2, d3, d4, d5, d6, d7, d8, d9⟩ := HD.out.all
  have K1 := Lib.hid (fun w => can_any c d w)
  have K2 := Lib.hid (fun w => can_any d c w)
  clear HW
  rw [h1] at K1
  clear h1
  go_enter Tryz.func3, Tryz.ntmps3
  go_wp2_with fail
  refine (K1.out _).mono ?_
  rintro e w1 ⟨rfl, hb⟩
  clear c0 d0 c1 d1 c2 d2 c3 d3 c4 d4 c5 d5 c6 d6 c7 d7 c8 d8 c9 d9
  have HC := Lib.hid (HC.out.callee hb)
  have HD := Lib.hid (HD.out.callee hb)
  have HV := Lib.hid (HV.out.trans (hb.mono HV.out.size))
  clear hb
  obtain ⟨c0, c1, c2, c3, c4, c5, c6, c7, c8, c9⟩ := HC.out.all
  obtain ⟨d0, d1, d2, d3, d4, d5, d6, d7, d8, d9⟩ := HD.out.all
  go_wp2_with fail
  refine (Neg.alive_any _).mono ?_
  rintro e w9 ⟨rfl, hb⟩
  have HE := Lib.hid (HB.out.trans ((HV.out.trans (hb.mono HV.out.size)).mono HB.out.size))
  clear hb
  go_wp2
  go_ret
  exact ⟨rfl, HE.out⟩

set_option maxHeartbeats 16000000 in
set_option maxRecDepth 100000 in
theorem walk_can2 (c d : Conf) (m n : UInt32) (A : Option Addr) (N k : Nat) (w : World) (hN : N ≤ 200) (h1 : canB c d = true) (h2 : canB d c = false) :
    Calls Tryz.prog 3 #[.agg #[Value.int .u16 c.mru.toNat, .bool c.ha, .int .u32 c.accm.toNat, .int .u8 c.auth.toNat, .int .u8 c.takes.toNat, .int .u8 c.can.toNat, .bool c.mg, .bool c.pfc, .bool c.acfc, .int .i64 c.mn], .agg #[Value.int .u16 d.mru.toNat, .bool d.ha, .int .u32 d.accm.toNat, .int .u8 d.auth.toNat, .int .u8 d.takes.toNat, .int .u8 d.can.toNat, .bool d.mg, .bool d.pfc, .bool d.acfc, .int .i64 d.mn], .int .u32 m.toNat, .int .u32 n.toNat, .slice A N k] w fun e w' => e = .returned (.bool true) ∧ Below w.heap.size w w' := by
  have g1 : ¬ (200 : Int) < (N : Int) := by omega
  obtain ⟨W, hW0, HW⟩ := boxCD w c d
  have hW : (w.alloc (.cells #[Value.int .u16 c.mru.toNat, .bool c.ha, .int .u32 c.accm.toNat, .int .u8 c.auth.toNat, .int .u8 c.takes.toNat, .int .u8 c.can.toNat, .bool c.mg, .bool c.pfc, .bool c.acfc, .int .i64 c.mn] 25)).alloc (.cells #[Value.int .u16 d.mru.toNat, .bool d.ha, .int .u32 d.accm.toNat, .int .u8 d.auth.toNat, .int .u8 d.takes.toNat, .int .u8 d.can.toNat, .bool d.mg, .bool d.pfc, .bool d.acfc, .int .i64 d.mn] 25) = W := hW0
  clear hW0
  have HB := Lib.hid HW.out.2.2.1
  have HC := Lib.hid HW.out.1
  have HD := Lib.hid HW.out.2.1
  have HC0 := HC
  have HD0 := HD
  have HV := Lib.hid (Below.refl W.heap.size W)
  obtain ⟨c0, c1, c2, c3, c4, c5, c6, c7, c8, c9⟩ := HC.out.all
  obtain ⟨d0, d1, d2, d3, d4, d5, d6, d7, d8, d9⟩ := HD.out.all
  have K1 := Lib.hid (fun w => can_any c d w)
  have K2 := Lib.hid (fun w => can_any d c w)
  clear HW
  rw [h1] at K1
  rw [h2] at K2
  clear h1 h2
  go_enter Tryz.func3, Tryz.ntmps3
  go_wp2_with fail
  refine (K1.out _).mono ?_
  rintro e w1 ⟨rfl, hb⟩
  clear c0 d0 c1 d1 c2 d2 c3 d3 c4 d4 c5 d5 c6 d6 c7 d7 c8 d8 c9 d9
  have HC := Lib.hid (HC.out.callee hb)
  have HD := Lib.hid (HD.out.callee hb)
  have HV := Lib.hid (HV.out.trans (hb.mono HV.out.size))
  clear hb
  obtain ⟨c0, c1, c2, c3, c4, c5, c6, c7, c8, c9⟩ := HC.out.all
  obtain ⟨d0, d1, d2, d3, d4, d5, d6, d7, d8, d9⟩ := HD.out.all
  go_wp2_with fail
  refine (K2.out _).mono ?_
  rintro e w2 ⟨rfl, hb⟩
  clear c0 d0 c1 d1 c2 d2 c3 d3 c4 d4 c5 d5 c6 d6 c7 d7 c8 d8 c9 d9
  have HC := Lib.hid (HC.out.callee hb)
  have HD := Lib.hid (HD.out.callee hb)
  have HV := Lib.hid (HV.out.trans (hb.mono HV.out.size))
  clear hb
  obtain ⟨c0, c1, c2, c3, c4, c5, c6, c7, c8, c9⟩ := HC.out.all
  obtain ⟨d0, d1, d2, d3, d4, d5, d6, d7, d8, d9⟩ := HD.out.all
  go_wp2_with fail
  refine (Neg.alive_any _).mono ?_
  rintro e w9 ⟨rfl, hb⟩
  have HE := Lib.hid (HB.out.trans ((HV.out.trans (hb.mono HV.out.size)).mono HB.out.size))
  clear hb
  go_wp2
  go_ret
  exact ⟨rfl, HE.out⟩

set_option maxHeartbeats 16000000 in
set_option maxRecDepth 100000 in
theorem walk_mn1 (c d : Conf) (m n : UInt32) (A : Option Addr) (N k : Nat) (w : World) (hN : N ≤ 200) (h1 : canB c d = true) (h2 : canB d c = true) (h3 : c.mn < 3) :
    Calls Tryz.prog 3 #[.agg #[Value.int .u16 c.mru.toNat, .bool c.ha, .int .u32 c.accm.toNat, .int .u8 c.auth.toNat, .int .u8 c.takes.toNat, .int .u8 c.can.toNat, .bool c.mg, .bool c.pfc, .bool c.acfc, .int .i64 c.mn], .agg #[Value.int .u16 d.mru.toNat, .bool d.ha, .int .u32 d.accm.toNat, .int .u8 d.auth.toNat, .int .u8 d.takes.toNat, .int .u8 d.can.toNat, .bool d.mg, .bool d.pfc, .bool d.acfc, .int .i64 d.mn], .int .u32 m.toNat, .int .u32 n.toNat, .slice A N k] w fun e w' => e = .returned (.bool true) ∧ Below w.heap.size w w' := by
  have g1 : ¬ (200 : Int) < (N : Int) := by omega
  obtain ⟨W, hW0, HW⟩ := boxCD w c d
  have hW : (w.alloc (.cells #[Value.int .u16 c.mru.toNat, .bool c.ha, .int .u32 c.accm.toNat, .int .u8 c.auth.toNat, .int .u8 c.takes.toNat, .int .u8 c.can.toNat, .bool c.mg, .bool c.pfc, .bool c.acfc, .int .i64 c.mn] 25)).alloc (.cells #[Value.int .u16 d.mru.toNat, .bool d.ha, .int .u32 d.accm.toNat, .int .u8 d.auth.toNat, .int .u8 d.takes.toNat, .int .u8 d.can.toNat, .bool d.mg, .bool d.pfc, .bool d.acfc, .int .i64 d.mn] 25) = W := hW0
  clear hW0
  have HB := Lib.hid HW.out.2.2.1
  have HC := Lib.hid HW.out.1
  have HD := Lib.hid HW.out.2.1
  have HC0 := HC
  have HD0 := HD
  have HV := Lib.hid (Below.refl W.heap.size W)
  obtain ⟨c0, c1, c2, c3, c4, c5, c6, c7, c8, c9⟩ := HC.out.all
  obtain ⟨d0, d1, d2, d3, d4, d5, d6, d7, d8, d9⟩ := HD.out.all
  have K1 := Lib.hid (fun w => can_any c d w)
  have K2 := Lib.hid (fun w => can_any d c w)
  clear HW
  rw [h1] at K1
  rw [h2] at K2
  clear h1 h2
  go_enter Tryz.func3, Tryz.ntmps3
  go_wp2_with fail
  refine (K1.out _).mono ?_
  rintro e w1 ⟨rfl, hb⟩
  clear c0 d0 c1 d1 c2 d2 c3 d3 c4 d4 c5 d5 c6 d6 c7 d7 c8 d8 c9 d9
  have HC := Lib.hid (HC.out.callee hb)
  have HD := Lib.hid (HD.out.callee hb)
  have HV := Lib.hid (HV.out.trans (hb.mono HV.out.size))
  clear hb
  obtain ⟨c0, c1, c2, c3, c4, c5, c6, c7, c8, c9⟩ := HC.out.all
  obtain ⟨d0, d1, d2, d3, d4, d5, d6, d7, d8, d9⟩ := HD.out.all
  go_wp2_with fail
  refine (K2.out _).mono ?_
  rintro e w2 ⟨rfl, hb⟩
  clear c0 d0 c1 d1 c2 d2 c3 d3 c4 d4 c5 d5 c6 d6 c7 d7 c8 d8 c9 d9
  have HC := Lib.hid (HC.out.callee hb)
  have HD := Lib.hid (HD.out.callee hb)
  have HV := Lib.hid (HV.out.trans (hb.mono HV.out.size))
  clear hb
  obtain ⟨c0, c1, c2, c3, c4, c5, c6, c7, c8, c9⟩ := HC.out.all
  obtain ⟨d0, d1, d2, d3, d4, d5, d6, d7, d8, d9⟩ := HD.out.all
  go_wp2_with fail
  refine (Neg.alive_any _).mono ?_
  rintro e w9 ⟨rfl, hb⟩
  have HE := Lib.hid (HB.out.trans ((HV.out.trans (hb.mono HV.out.size)).mono HB.out.size))
  clear hb
  go_wp2
  go_ret
  exact ⟨rfl, HE.out⟩

set_option maxHeartbeats 16000000 in
set_option maxRecDepth 100000 in
theorem walk_mn2 (c d : Conf) (m n : UInt32) (A : Option Addr) (N k : Nat) (w : World) (hN : N ≤ 200) (h1 : canB c d = true) (h2 : canB d c = true) (h3 : ¬ c.mn < 3) (h4 : d.mn < 3) :
    Calls Tryz.prog 3 #[.agg #[Value.int .u16 c.mru.toNat, .bool c.ha, .int .u32 c.accm.toNat, .int .u8 c.auth.toNat, .int .u8 c.takes.toNat, .int .u8 c.can.toNat, .bool c.mg, .bool c.pfc, .bool c.acfc, .int .i64 c.mn], .agg #[Value.int .u16 d.mru.toNat, .bool d.ha, .int .u32 d.accm.toNat, .int .u8 d.auth.toNat, .int .u8 d.takes.toNat, .int .u8 d.can.toNat, .bool d.mg, .bool d.pfc, .bool d.acfc, .int .i64 d.mn], .int .u32 m.toNat, .int .u32 n.toNat, .slice A N k] w fun e w' => e = .returned (.bool true) ∧ Below w.heap.size w w' := by
  have g1 : ¬ (200 : Int) < (N : Int) := by omega
  obtain ⟨W, hW0, HW⟩ := boxCD w c d
  have hW : (w.alloc (.cells #[Value.int .u16 c.mru.toNat, .bool c.ha, .int .u32 c.accm.toNat, .int .u8 c.auth.toNat, .int .u8 c.takes.toNat, .int .u8 c.can.toNat, .bool c.mg, .bool c.pfc, .bool c.acfc, .int .i64 c.mn] 25)).alloc (.cells #[Value.int .u16 d.mru.toNat, .bool d.ha, .int .u32 d.accm.toNat, .int .u8 d.auth.toNat, .int .u8 d.takes.toNat, .int .u8 d.can.toNat, .bool d.mg, .bool d.pfc, .bool d.acfc, .int .i64 d.mn] 25) = W := hW0
  clear hW0
  have HB := Lib.hid HW.out.2.2.1
  have HC := Lib.hid HW.out.1
  have HD := Lib.hid HW.out.2.1
  have HC0 := HC
  have HD0 := HD
  have HV := Lib.hid (Below.refl W.heap.size W)
  obtain ⟨c0, c1, c2, c3, c4, c5, c6, c7, c8, c9⟩ := HC.out.all
  obtain ⟨d0, d1, d2, d3, d4, d5, d6, d7, d8, d9⟩ := HD.out.all
  have K1 := Lib.hid (fun w => can_any c d w)
  have K2 := Lib.hid (fun w => can_any d c w)
  clear HW
  rw [h1] at K1
  rw [h2] at K2
  clear h1 h2
  go_enter Tryz.func3, Tryz.ntmps3
  go_wp2_with fail
  refine (K1.out _).mono ?_
  rintro e w1 ⟨rfl, hb⟩
  clear c0 d0 c1 d1 c2 d2 c3 d3 c4 d4 c5 d5 c6 d6 c7 d7 c8 d8 c9 d9
  have HC := Lib.hid (HC.out.callee hb)
  have HD := Lib.hid (HD.out.callee hb)
  have HV := Lib.hid (HV.out.trans (hb.mono HV.out.size))
  clear hb
  obtain ⟨c0, c1, c2, c3, c4, c5, c6, c7, c8, c9⟩ := HC.out.all
  obtain ⟨d0, d1, d2, d3, d4, d5, d6, d7, d8, d9⟩ := HD.out.all
  go_wp2_with fail
  refine (K2.out _).mono ?_
  rintro e w2 ⟨rfl, hb⟩
  clear c0 d0 c1 d1 c2 d2 c3 d3 c4 d4 c5 d5 c6 d6 c7 d7 c8 d8 c9 d9
  have HC := Lib.hid (HC.out.callee hb)
  have HD := Lib.hid (HD.out.callee hb)
  have HV := Lib.hid (HV.out.trans (hb.mono HV.out.size))
  clear hb
  obtain ⟨c0, c1, c2, c3, c4, c5, c6, c7, c8, c9⟩ := HC.out.all
  obtain ⟨d0, d1, d2, d3, d4, d5, d6, d7, d8, d9⟩ := HD.out.all
  go_wp2_with fail
  refine (Neg.alive_any _).mono ?_
  rintro e w9 ⟨rfl, hb⟩
  have HE := Lib.hid (HB.out.trans ((HV.out.trans (hb.mono HV.out.size)).mono HB.out.size))
  clear hb
  go_wp2
  go_ret
  exact ⟨rfl, HE.out⟩

set_option maxHeartbeats 16000000 in
set_option maxRecDepth 100000 in
theorem walk_bad1a (c d : Conf) (m n : UInt32) (A : Option Addr) (N k : Nat) (w : World) (hN : N ≤ 200) (h1 : canB c d = true) (h2 : canB d c = true) (h3 : ¬ c.mn < 3) (h4 : ¬ d.mn < 3) (hc : mayC c = false) (hd : mayC d = true) :
    Calls Tryz.prog 3 #[.agg #[Value.int .u16 c.mru.toNat, .bool c.ha, .int .u32 c.accm.toNat, .int .u8 c.auth.toNat, .int .u8 c.takes.toNat, .int .u8 c.can.toNat, .bool c.mg, .bool c.pfc, .bool c.acfc, .int .i64 c.mn], .agg #[Value.int .u16 d.mru.toNat, .bool d.ha, .int .u32 d.accm.toNat, .int .u8 d.auth.toNat, .int .u8 d.takes.toNat, .int .u8 d.can.toNat, .bool d.mg, .bool d.pfc, .bool d.acfc, .int .i64 d.mn], .int .u32 m.toNat, .int .u32 n.toNat, .slice A N k] w fun e w' => e = .returned (.bool true) ∧ Below w.heap.size w w' := by
  have g1 : ¬ (200 : Int) < (N : Int) := by omega
  obtain ⟨W, hW0, HW⟩ := boxCD w c d
  have hW : (w.alloc (.cells #[Value.int .u16 c.mru.toNat, .bool c.ha, .int .u32 c.accm.toNat, .int .u8 c.auth.toNat, .int .u8 c.takes.toNat, .int .u8 c.can.toNat, .bool c.mg, .bool c.pfc, .bool c.acfc, .int .i64 c.mn] 25)).alloc (.cells #[Value.int .u16 d.mru.toNat, .bool d.ha, .int .u32 d.accm.toNat, .int .u8 d.auth.toNat, .int .u8 d.takes.toNat, .int .u8 d.can.toNat, .bool d.mg, .bool d.pfc, .bool d.acfc, .int .i64 d.mn] 25) = W := hW0
  clear hW0
  have HB := Lib.hid HW.out.2.2.1
  have HC := Lib.hid HW.out.1
  have HD := Lib.hid HW.out.2.1
  have HC0 := HC
  have HD0 := HD
  have HV := Lib.hid (Below.refl W.heap.size W)
  obtain ⟨c0, c1, c2, c3, c4, c5, c6, c7, c8, c9⟩ := HC.out.all
  obtain ⟨d0, d1, d2, d3, d4, d5, d6, d7, d8, d9⟩ := HD.out.all
  have K1 := Lib.hid (fun w => can_any c d w)
  have K2 := Lib.hid (fun w => can_any d c w)
  clear HW
  rw [h1] at K1
  rw [h2] at K2
  have A0 := Lib.hid Neg.auto_any
  have Nc := Lib.hid (fun w => lcp_no 3 10 2 c m w hc)
  have Nd := Lib.hid (fun w => lcp_ok 3 10 2 d n w may3 hd)
  clear h1 h2 hc hd
  go_enter Tryz.func3, Tryz.ntmps3
  go_wp2_with fail
  refine (K1.out _).mono ?_
  rintro e w1 ⟨rfl, hb⟩
  clear c0 d0 c1 d1 c2 d2 c3 d3 c4 d4 c5 d5 c6 d6 c7 d7 c8 d8 c9 d9
  have HC := Lib.hid (HC.out.callee hb)
  have HD := Lib.hid (HD.out.callee hb)
  have HV := Lib.hid (HV.out.trans (hb.mono HV.out.size))
  clear hb
  obtain ⟨c0, c1, c2, c3, c4, c5, c6, c7, c8, c9⟩ := HC.out.all
  obtain ⟨d0, d1, d2, d3, d4, d5, d6, d7, d8, d9⟩ := HD.out.all
  go_wp2_with fail
  refine (K2.out _).mono ?_
  rintro e w2 ⟨rfl, hb⟩
  clear c0 d0 c1 d1 c2 d2 c3 d3 c4 d4 c5 d5 c6 d6 c7 d7 c8 d8 c9 d9
  have HC := Lib.hid (HC.out.callee hb)
  have HD := Lib.hid (HD.out.callee hb)
  have HV := Lib.hid (HV.out.trans (hb.mono HV.out.size))
  clear hb
  obtain ⟨c0, c1, c2, c3, c4, c5, c6, c7, c8, c9⟩ := HC.out.all
  obtain ⟨d0, d1, d2, d3, d4, d5, d6, d7, d8, d9⟩ := HD.out.all
  go_wp2_with fail
  have hdr2 : Below w2.heap.size w2 w2.drew := (Below.refl _ w2).drew
  clear c0 d0 c1 d1 c2 d2 c3 d3 c4 d4 c5 d5 c6 d6 c7 d7 c8 d8 c9 d9
  have HC := Lib.hid (HC.out.callee hdr2)
  have HD := Lib.hid (HD.out.callee hdr2)
  have HV := Lib.hid (HV.out.trans (hdr2.mono HV.out.size))
  clear hdr2
  obtain ⟨k0, k1, k2, k3, k4, k5, k6, k7, k8, k9⟩ := HC.out.all
  go_region_held3 (fun w' => w'.cell? ⟨w.heap.size, 0, none⟩ = some (Value.int .u16 c.mru.toNat) ∧ w'.cell? ⟨w.heap.size, 1, none⟩ = some (.bool c.ha) ∧ w'.cell? ⟨w.heap.size, 2, none⟩ = some (.int .u32 c.accm.toNat) ∧ w'.cell? ⟨w.heap.size, 3, none⟩ = some (.int .u8 c.auth.toNat) ∧ w'.cell? ⟨w.heap.size, 4, none⟩ = some (.int .u8 c.takes.toNat) ∧ w'.cell? ⟨w.heap.size, 5, none⟩ = some (.int .u8 c.can.toNat) ∧ w'.cell? ⟨w.heap.size, 6, none⟩ = some (.bool c.mg) ∧ w'.cell? ⟨w.heap.size, 7, none⟩ = some (.bool c.pfc) ∧ w'.cell? ⟨w.heap.size, 8, none⟩ = some (.bool c.acfc) ∧ w'.cell? ⟨w.heap.size, 9, none⟩ = some (.int .i64 c.mn))
    (first | (with_reducible assumption) | (refine ⟨?_, ?_, ?_, ?_, ?_, ?_, ?_, ?_, ?_, ?_⟩ <;> with_reducible assumption) | (go_split_ands; refine ⟨?_, ?_, ?_, ?_, ?_, ?_, ?_, ?_, ?_, ?_⟩ <;> with_reducible assumption))
    (first
      | (go_at_call 7; refine (A0.out _).mono ?_; rintro e w3 ⟨rfl, hb⟩; replace HC := Lib.hid (HC.out.callee hb); replace HD := Lib.hid (HD.out.callee hb); replace HV := Lib.hid (HV.out.trans (hb.mono HV.out.size)); clear k0 k1 k2 k3 k4 k5 k6 k7 k8 k9; obtain ⟨k0, k1, k2, k3, k4, k5, k6, k7, k8, k9⟩ := HC.out.all; clear hb)
      | (go_at_call 6; refine (Nc.out _).mono ?_; rintro e w4 ⟨rfl, hb⟩; replace HC := Lib.hid (HC.out.callee hb); replace HD := Lib.hid (HD.out.callee hb); replace HV := Lib.hid (HV.out.trans (hb.mono HV.out.size)); clear k0 k1 k2 k3 k4 k5 k6 k7 k8 k9; obtain ⟨k0, k1, k2, k3, k4, k5, k6, k7, k8, k9⟩ := HC.out.all; clear hb)
      | fail)
  clear k0 k1 k2 k3 k4 k5 k6 k7 k8 k9
  obtain ⟨c0, c1, c2, c3, c4, c5, c6, c7, c8, c9⟩ := HC.out.all
  obtain ⟨d0, d1, d2, d3, d4, d5, d6, d7, d8, d9⟩ := HD.out.all
  go_wp2_with fail
  have hdr4 : Below w4.heap.size w4 w4.drew := (Below.refl _ w4).drew
  clear c0 d0 c1 d1 c2 d2 c3 d3 c4 d4 c5 d5 c6 d6 c7 d7 c8 d8 c9 d9
  have HC := Lib.hid (HC.out.callee hdr4)
  have HD := Lib.hid (HD.out.callee hdr4)
  have HV := Lib.hid (HV.out.trans (hdr4.mono HV.out.size))
  clear hdr4
  obtain ⟨k0, k1, k2, k3, k4, k5, k6, k7, k8, k9⟩ := HD.out.all
  go_region_held3 (fun w' => w'.cell? ⟨w.heap.size + 1, 0, none⟩ = some (Value.int .u16 d.mru.toNat) ∧ w'.cell? ⟨w.heap.size + 1, 1, none⟩ = some (.bool d.ha) ∧ w'.cell? ⟨w.heap.size + 1, 2, none⟩ = some (.int .u32 d.accm.toNat) ∧ w'.cell? ⟨w.heap.size + 1, 3, none⟩ = some (.int .u8 d.auth.toNat) ∧ w'.cell? ⟨w.heap.size + 1, 4, none⟩ = some (.int .u8 d.takes.toNat) ∧ w'.cell? ⟨w.heap.size + 1, 5, none⟩ = some (.int .u8 d.can.toNat) ∧ w'.cell? ⟨w.heap.size + 1, 6, none⟩ = some (.bool d.mg) ∧ w'.cell? ⟨w.heap.size + 1, 7, none⟩ = some (.bool d.pfc) ∧ w'.cell? ⟨w.heap.size + 1, 8, none⟩ = some (.bool d.acfc) ∧ w'.cell? ⟨w.heap.size + 1, 9, none⟩ = some (.int .i64 d.mn))
    (first | (with_reducible assumption) | (refine ⟨?_, ?_, ?_, ?_, ?_, ?_, ?_, ?_, ?_, ?_⟩ <;> with_reducible assumption) | (go_split_ands; refine ⟨?_, ?_, ?_, ?_, ?_, ?_, ?_, ?_, ?_, ?_⟩ <;> with_reducible assumption))
    (first
      | (go_at_call 7; refine (A0.out _).mono ?_; rintro e w5 ⟨rfl, hb⟩; replace HC := Lib.hid (HC.out.callee hb); replace HD := Lib.hid (HD.out.callee hb); replace HV := Lib.hid (HV.out.trans (hb.mono HV.out.size)); clear k0 k1 k2 k3 k4 k5 k6 k7 k8 k9; obtain ⟨k0, k1, k2, k3, k4, k5, k6, k7, k8, k9⟩ := HD.out.all; clear hb)
      | (go_at_call 6; refine (Nd.out _).mono ?_; rintro e w6 ⟨gb, ab, qb, rfl, l1, l2, l3, hs, hb⟩; clear l1 l2 l3 hs; replace HC := Lib.hid (HC.out.callee hb); replace HD := Lib.hid (HD.out.callee hb); replace HV := Lib.hid (HV.out.trans (hb.mono HV.out.size)); clear k0 k1 k2 k3 k4 k5 k6 k7 k8 k9; obtain ⟨k0, k1, k2, k3, k4, k5, k6, k7, k8, k9⟩ := HD.out.all; clear hb)
      | fail)
  clear k0 k1 k2 k3 k4 k5 k6 k7 k8 k9
  obtain ⟨c0, c1, c2, c3, c4, c5, c6, c7, c8, c9⟩ := HC.out.all
  obtain ⟨d0, d1, d2, d3, d4, d5, d6, d7, d8, d9⟩ := HD.out.all
  go_wp2_with fail
  refine (Neg.alive_any _).mono ?_
  rintro e w9 ⟨rfl, hb⟩
  have HE := Lib.hid (HB.out.trans ((HV.out.trans (hb.mono HV.out.size)).mono HB.out.size))
  clear hb
  go_wp2
  go_ret
  exact ⟨rfl, HE.out⟩

set_option maxHeartbeats 16000000 in
set_option maxRecDepth 100000 in
theorem walk_bad1b (c d : Conf) (m n : UInt32) (A : Option Addr) (N k : Nat) (w : World) (hN : N ≤ 200) (h1 : canB c d = true) (h2 : canB d c = true) (h3 : ¬ c.mn < 3) (h4 : ¬ d.mn < 3) (hc : mayC c = false) (hd : mayC d = false) :
    Calls Tryz.prog 3 #[.agg #[Value.int .u16 c.mru.toNat, .bool c.ha, .int .u32 c.accm.toNat, .int .u8 c.auth.toNat, .int .u8 c.takes.toNat, .int .u8 c.can.toNat, .bool c.mg, .bool c.pfc, .bool c.acfc, .int .i64 c.mn], .agg #[Value.int .u16 d.mru.toNat, .bool d.ha, .int .u32 d.accm.toNat, .int .u8 d.auth.toNat, .int .u8 d.takes.toNat, .int .u8 d.can.toNat, .bool d.mg, .bool d.pfc, .bool d.acfc, .int .i64 d.mn], .int .u32 m.toNat, .int .u32 n.toNat, .slice A N k] w fun e w' => e = .returned (.bool true) ∧ Below w.heap.size w w' := by
  have g1 : ¬ (200 : Int) < (N : Int) := by omega
  obtain ⟨W, hW0, HW⟩ := boxCD w c d
  have hW : (w.alloc (.cells #[Value.int .u16 c.mru.toNat, .bool c.ha, .int .u32 c.accm.toNat, .int .u8 c.auth.toNat, .int .u8 c.takes.toNat, .int .u8 c.can.toNat, .bool c.mg, .bool c.pfc, .bool c.acfc, .int .i64 c.mn] 25)).alloc (.cells #[Value.int .u16 d.mru.toNat, .bool d.ha, .int .u32 d.accm.toNat, .int .u8 d.auth.toNat, .int .u8 d.takes.toNat, .int .u8 d.can.toNat, .bool d.mg, .bool d.pfc, .bool d.acfc, .int .i64 d.mn] 25) = W := hW0
  clear hW0
  have HB := Lib.hid HW.out.2.2.1
  have HC := Lib.hid HW.out.1
  have HD := Lib.hid HW.out.2.1
  have HC0 := HC
  have HD0 := HD
  have HV := Lib.hid (Below.refl W.heap.size W)
  obtain ⟨c0, c1, c2, c3, c4, c5, c6, c7, c8, c9⟩ := HC.out.all
  obtain ⟨d0, d1, d2, d3, d4, d5, d6, d7, d8, d9⟩ := HD.out.all
  have K1 := Lib.hid (fun w => can_any c d w)
  have K2 := Lib.hid (fun w => can_any d c w)
  clear HW
  rw [h1] at K1
  rw [h2] at K2
  have A0 := Lib.hid Neg.auto_any
  have Nc := Lib.hid (fun w => lcp_no 3 10 2 c m w hc)
  have Nd := Lib.hid (fun w => lcp_no 3 10 2 d n w hd)
  clear h1 h2 hc hd
  go_enter Tryz.func3, Tryz.ntmps3
  go_wp2_with fail
  refine (K1.out _).mono ?_
  rintro e w1 ⟨rfl, hb⟩
  clear c0 d0 c1 d1 c2 d2 c3 d3 c4 d4 c5 d5 c6 d6 c7 d7 c8 d8 c9 d9
  have HC := Lib.hid (HC.out.callee hb)
  have HD := Lib.hid (HD.out.callee hb)
  have HV := Lib.hid (HV.out.trans (hb.mono HV.out.size))
  clear hb
  obtain ⟨c0, c1, c2, c3, c4, c5, c6, c7, c8, c9⟩ := HC.out.all
  obtain ⟨d0, d1, d2, d3, d4, d5, d6, d7, d8, d9⟩ := HD.out.all
  go_wp2_with fail
  refine (K2.out _).mono ?_
  rintro e w2 ⟨rfl, hb⟩
  clear c0 d0 c1 d1 c2 d2 c3 d3 c4 d4 c5 d5 c6 d6 c7 d7 c8 d8 c9 d9
  have HC := Lib.hid (HC.out.callee hb)
  have HD := Lib.hid (HD.out.callee hb)
  have HV := Lib.hid (HV.out.trans (hb.mono HV.out.size))
  clear hb
  obtain ⟨c0, c1, c2, c3, c4, c5, c6, c7, c8, c9⟩ := HC.out.all
  obtain ⟨d0, d1, d2, d3, d4, d5, d6, d7, d8, d9⟩ := HD.out.all
  go_wp2_with fail
  have hdr2 : Below w2.heap.size w2 w2.drew := (Below.refl _ w2).drew
  clear c0 d0 c1 d1 c2 d2 c3 d3 c4 d4 c5 d5 c6 d6 c7 d7 c8 d8 c9 d9
  have HC := Lib.hid (HC.out.callee hdr2)
  have HD := Lib.hid (HD.out.callee hdr2)
  have HV := Lib.hid (HV.out.trans (hdr2.mono HV.out.size))
  clear hdr2
  obtain ⟨k0, k1, k2, k3, k4, k5, k6, k7, k8, k9⟩ := HC.out.all
  go_region_held3 (fun w' => w'.cell? ⟨w.heap.size, 0, none⟩ = some (Value.int .u16 c.mru.toNat) ∧ w'.cell? ⟨w.heap.size, 1, none⟩ = some (.bool c.ha) ∧ w'.cell? ⟨w.heap.size, 2, none⟩ = some (.int .u32 c.accm.toNat) ∧ w'.cell? ⟨w.heap.size, 3, none⟩ = some (.int .u8 c.auth.toNat) ∧ w'.cell? ⟨w.heap.size, 4, none⟩ = some (.int .u8 c.takes.toNat) ∧ w'.cell? ⟨w.heap.size, 5, none⟩ = some (.int .u8 c.can.toNat) ∧ w'.cell? ⟨w.heap.size, 6, none⟩ = some (.bool c.mg) ∧ w'.cell? ⟨w.heap.size, 7, none⟩ = some (.bool c.pfc) ∧ w'.cell? ⟨w.heap.size, 8, none⟩ = some (.bool c.acfc) ∧ w'.cell? ⟨w.heap.size, 9, none⟩ = some (.int .i64 c.mn))
    (first | (with_reducible assumption) | (refine ⟨?_, ?_, ?_, ?_, ?_, ?_, ?_, ?_, ?_, ?_⟩ <;> with_reducible assumption) | (go_split_ands; refine ⟨?_, ?_, ?_, ?_, ?_, ?_, ?_, ?_, ?_, ?_⟩ <;> with_reducible assumption))
    (first
      | (go_at_call 7; refine (A0.out _).mono ?_; rintro e w3 ⟨rfl, hb⟩; replace HC := Lib.hid (HC.out.callee hb); replace HD := Lib.hid (HD.out.callee hb); replace HV := Lib.hid (HV.out.trans (hb.mono HV.out.size)); clear k0 k1 k2 k3 k4 k5 k6 k7 k8 k9; obtain ⟨k0, k1, k2, k3, k4, k5, k6, k7, k8, k9⟩ := HC.out.all; clear hb)
      | (go_at_call 6; refine (Nc.out _).mono ?_; rintro e w4 ⟨rfl, hb⟩; replace HC := Lib.hid (HC.out.callee hb); replace HD := Lib.hid (HD.out.callee hb); replace HV := Lib.hid (HV.out.trans (hb.mono HV.out.size)); clear k0 k1 k2 k3 k4 k5 k6 k7 k8 k9; obtain ⟨k0, k1, k2, k3, k4, k5, k6, k7, k8, k9⟩ := HC.out.all; clear hb)
      | fail)
  clear k0 k1 k2 k3 k4 k5 k6 k7 k8 k9
  obtain ⟨c0, c1, c2, c3, c4, c5, c6, c7, c8, c9⟩ := HC.out.all
  obtain ⟨d0, d1, d2, d3, d4, d5, d6, d7, d8, d9⟩ := HD.out.all
  go_wp2_with fail
  have hdr4 : Below w4.heap.size w4 w4.drew := (Below.refl _ w4).drew
  clear c0 d0 c1 d1 c2 d2 c3 d3 c4 d4 c5 d5 c6 d6 c7 d7 c8 d8 c9 d9
  have HC := Lib.hid (HC.out.callee hdr4)
  have HD := Lib.hid (HD.out.callee hdr4)
  have HV := Lib.hid (HV.out.trans (hdr4.mono HV.out.size))
  clear hdr4
  obtain ⟨k0, k1, k2, k3, k4, k5, k6, k7, k8, k9⟩ := HD.out.all
  go_region_held3 (fun w' => w'.cell? ⟨w.heap.size + 1, 0, none⟩ = some (Value.int .u16 d.mru.toNat) ∧ w'.cell? ⟨w.heap.size + 1, 1, none⟩ = some (.bool d.ha) ∧ w'.cell? ⟨w.heap.size + 1, 2, none⟩ = some (.int .u32 d.accm.toNat) ∧ w'.cell? ⟨w.heap.size + 1, 3, none⟩ = some (.int .u8 d.auth.toNat) ∧ w'.cell? ⟨w.heap.size + 1, 4, none⟩ = some (.int .u8 d.takes.toNat) ∧ w'.cell? ⟨w.heap.size + 1, 5, none⟩ = some (.int .u8 d.can.toNat) ∧ w'.cell? ⟨w.heap.size + 1, 6, none⟩ = some (.bool d.mg) ∧ w'.cell? ⟨w.heap.size + 1, 7, none⟩ = some (.bool d.pfc) ∧ w'.cell? ⟨w.heap.size + 1, 8, none⟩ = some (.bool d.acfc) ∧ w'.cell? ⟨w.heap.size + 1, 9, none⟩ = some (.int .i64 d.mn))
    (first | (with_reducible assumption) | (refine ⟨?_, ?_, ?_, ?_, ?_, ?_, ?_, ?_, ?_, ?_⟩ <;> with_reducible assumption) | (go_split_ands; refine ⟨?_, ?_, ?_, ?_, ?_, ?_, ?_, ?_, ?_, ?_⟩ <;> with_reducible assumption))
    (first
      | (go_at_call 7; refine (A0.out _).mono ?_; rintro e w5 ⟨rfl, hb⟩; replace HC := Lib.hid (HC.out.callee hb); replace HD := Lib.hid (HD.out.callee hb); replace HV := Lib.hid (HV.out.trans (hb.mono HV.out.size)); clear k0 k1 k2 k3 k4 k5 k6 k7 k8 k9; obtain ⟨k0, k1, k2, k3, k4, k5, k6, k7, k8, k9⟩ := HD.out.all; clear hb)
      | (go_at_call 6; refine (Nd.out _).mono ?_; rintro e w6 ⟨rfl, hb⟩; replace HC := Lib.hid (HC.out.callee hb); replace HD := Lib.hid (HD.out.callee hb); replace HV := Lib.hid (HV.out.trans (hb.mono HV.out.size)); clear k0 k1 k2 k3 k4 k5 k6 k7 k8 k9; obtain ⟨k0, k1, k2, k3, k4, k5, k6, k7, k8, k9⟩ := HD.out.all; clear hb)
      | fail)
  clear k0 k1 k2 k3 k4 k5 k6 k7 k8 k9
  obtain ⟨c0, c1, c2, c3, c4, c5, c6, c7, c8, c9⟩ := HC.out.all
  obtain ⟨d0, d1, d2, d3, d4, d5, d6, d7, d8, d9⟩ := HD.out.all
  go_wp2_with fail
  refine (Neg.alive_any _).mono ?_
  rintro e w9 ⟨rfl, hb⟩
  have HE := Lib.hid (HB.out.trans ((HV.out.trans (hb.mono HV.out.size)).mono HB.out.size))
  clear hb
  go_wp2
  go_ret
  exact ⟨rfl, HE.out⟩

set_option maxHeartbeats 16000000 in
set_option maxRecDepth 100000 in
theorem walk_bad2 (c d : Conf) (m n : UInt32) (A : Option Addr) (N k : Nat) (w : World) (hN : N ≤ 200) (h1 : canB c d = true) (h2 : canB d c = true) (h3 : ¬ c.mn < 3) (h4 : ¬ d.mn < 3) (hc : mayC c = true) (hd : mayC d = false) :
    Calls Tryz.prog 3 #[.agg #[Value.int .u16 c.mru.toNat, .bool c.ha, .int .u32 c.accm.toNat, .int .u8 c.auth.toNat, .int .u8 c.takes.toNat, .int .u8 c.can.toNat, .bool c.mg, .bool c.pfc, .bool c.acfc, .int .i64 c.mn], .agg #[Value.int .u16 d.mru.toNat, .bool d.ha, .int .u32 d.accm.toNat, .int .u8 d.auth.toNat, .int .u8 d.takes.toNat, .int .u8 d.can.toNat, .bool d.mg, .bool d.pfc, .bool d.acfc, .int .i64 d.mn], .int .u32 m.toNat, .int .u32 n.toNat, .slice A N k] w fun e w' => e = .returned (.bool true) ∧ Below w.heap.size w w' := by
  have g1 : ¬ (200 : Int) < (N : Int) := by omega
  obtain ⟨W, hW0, HW⟩ := boxCD w c d
  have hW : (w.alloc (.cells #[Value.int .u16 c.mru.toNat, .bool c.ha, .int .u32 c.accm.toNat, .int .u8 c.auth.toNat, .int .u8 c.takes.toNat, .int .u8 c.can.toNat, .bool c.mg, .bool c.pfc, .bool c.acfc, .int .i64 c.mn] 25)).alloc (.cells #[Value.int .u16 d.mru.toNat, .bool d.ha, .int .u32 d.accm.toNat, .int .u8 d.auth.toNat, .int .u8 d.takes.toNat, .int .u8 d.can.toNat, .bool d.mg, .bool d.pfc, .bool d.acfc, .int .i64 d.mn] 25) = W := hW0
  clear hW0
  have HB := Lib.hid HW.out.2.2.1
  have HC := Lib.hid HW.out.1
  have HD := Lib.hid HW.out.2.1
  have HC0 := HC
  have HD0 := HD
  have HV := Lib.hid (Below.refl W.heap.size W)
  obtain ⟨c0, c1, c2, c3, c4, c5, c6, c7, c8, c9⟩ := HC.out.all
  obtain ⟨d0, d1, d2, d3, d4, d5, d6, d7, d8, d9⟩ := HD.out.all
  have K1 := Lib.hid (fun w => can_any c d w)
  have K2 := Lib.hid (fun w => can_any d c w)
  clear HW
  rw [h1] at K1
  rw [h2] at K2
  have A0 := Lib.hid Neg.auto_any
  have Nc := Lib.hid (fun w => lcp_ok 3 10 2 c m w may3 hc)
  have Nd := Lib.hid (fun w => lcp_no 3 10 2 d n w hd)
  clear h1 h2 hc hd
  go_enter Tryz.func3, Tryz.ntmps3
  go_wp2_with fail
  refine (K1.out _).mono ?_
  rintro e w1 ⟨rfl, hb⟩
  clear c0 d0 c1 d1 c2 d2 c3 d3 c4 d4 c5 d5 c6 d6 c7 d7 c8 d8 c9 d9
  have HC := Lib.hid (HC.out.callee hb)
  have HD := Lib.hid (HD.out.callee hb)
  have HV := Lib.hid (HV.out.trans (hb.mono HV.out.size))
  clear hb
  obtain ⟨c0, c1, c2, c3, c4, c5, c6, c7, c8, c9⟩ := HC.out.all
  obtain ⟨d0, d1, d2, d3, d4, d5, d6, d7, d8, d9⟩ := HD.out.all
  go_wp2_with fail
  refine (K2.out _).mono ?_
  rintro e w2 ⟨rfl, hb⟩
  clear c0 d0 c1 d1 c2 d2 c3 d3 c4 d4 c5 d5 c6 d6 c7 d7 c8 d8 c9 d9
  have HC := Lib.hid (HC.out.callee hb)
  have HD := Lib.hid (HD.out.callee hb)
  have HV := Lib.hid (HV.out.trans (hb.mono HV.out.size))
  clear hb
  obtain ⟨c0, c1, c2, c3, c4, c5, c6, c7, c8, c9⟩ := HC.out.all
  obtain ⟨d0, d1, d2, d3, d4, d5, d6, d7, d8, d9⟩ := HD.out.all
  go_wp2_with fail
  have hdr2 : Below w2.heap.size w2 w2.drew := (Below.refl _ w2).drew
  clear c0 d0 c1 d1 c2 d2 c3 d3 c4 d4 c5 d5 c6 d6 c7 d7 c8 d8 c9 d9
  have HC := Lib.hid (HC.out.callee hdr2)
  have HD := Lib.hid (HD.out.callee hdr2)
  have HV := Lib.hid (HV.out.trans (hdr2.mono HV.out.size))
  clear hdr2
  obtain ⟨k0, k1, k2, k3, k4, k5, k6, k7, k8, k9⟩ := HC.out.all
  go_region_held3 (fun w' => w'.cell? ⟨w.heap.size, 0, none⟩ = some (Value.int .u16 c.mru.toNat) ∧ w'.cell? ⟨w.heap.size, 1, none⟩ = some (.bool c.ha) ∧ w'.cell? ⟨w.heap.size, 2, none⟩ = some (.int .u32 c.accm.toNat) ∧ w'.cell? ⟨w.heap.size, 3, none⟩ = some (.int .u8 c.auth.toNat) ∧ w'.cell? ⟨w.heap.size, 4, none⟩ = some (.int .u8 c.takes.toNat) ∧ w'.cell? ⟨w.heap.size, 5, none⟩ = some (.int .u8 c.can.toNat) ∧ w'.cell? ⟨w.heap.size, 6, none⟩ = some (.bool c.mg) ∧ w'.cell? ⟨w.heap.size, 7, none⟩ = some (.bool c.pfc) ∧ w'.cell? ⟨w.heap.size, 8, none⟩ = some (.bool c.acfc) ∧ w'.cell? ⟨w.heap.size, 9, none⟩ = some (.int .i64 c.mn))
    (first | (with_reducible assumption) | (refine ⟨?_, ?_, ?_, ?_, ?_, ?_, ?_, ?_, ?_, ?_⟩ <;> with_reducible assumption) | (go_split_ands; refine ⟨?_, ?_, ?_, ?_, ?_, ?_, ?_, ?_, ?_, ?_⟩ <;> with_reducible assumption))
    (first
      | (go_at_call 7; refine (A0.out _).mono ?_; rintro e w3 ⟨rfl, hb⟩; replace HC := Lib.hid (HC.out.callee hb); replace HD := Lib.hid (HD.out.callee hb); replace HV := Lib.hid (HV.out.trans (hb.mono HV.out.size)); clear k0 k1 k2 k3 k4 k5 k6 k7 k8 k9; obtain ⟨k0, k1, k2, k3, k4, k5, k6, k7, k8, k9⟩ := HC.out.all; clear hb)
      | (go_at_call 6; refine (Nc.out _).mono ?_; rintro e w4 ⟨ga, aa, qa, rfl, l1, l2, l3, hs, hb⟩; clear l1 l2 l3 hs; replace HC := Lib.hid (HC.out.callee hb); replace HD := Lib.hid (HD.out.callee hb); replace HV := Lib.hid (HV.out.trans (hb.mono HV.out.size)); clear k0 k1 k2 k3 k4 k5 k6 k7 k8 k9; obtain ⟨k0, k1, k2, k3, k4, k5, k6, k7, k8, k9⟩ := HC.out.all; clear hb)
      | fail)
  clear k0 k1 k2 k3 k4 k5 k6 k7 k8 k9
  obtain ⟨c0, c1, c2, c3, c4, c5, c6, c7, c8, c9⟩ := HC.out.all
  obtain ⟨d0, d1, d2, d3, d4, d5, d6, d7, d8, d9⟩ := HD.out.all
  go_wp2_with fail
  have hdr4 : Below w4.heap.size w4 w4.drew := (Below.refl _ w4).drew
  clear c0 d0 c1 d1 c2 d2 c3 d3 c4 d4 c5 d5 c6 d6 c7 d7 c8 d8 c9 d9
  have HC := Lib.hid (HC.out.callee hdr4)
  have HD := Lib.hid (HD.out.callee hdr4)
  have HV := Lib.hid (HV.out.trans (hdr4.mono HV.out.size))
  clear hdr4
  obtain ⟨k0, k1, k2, k3, k4, k5, k6, k7, k8, k9⟩ := HD.out.all
  go_region_held3 (fun w' => w'.cell? ⟨w.heap.size + 1, 0, none⟩ = some (Value.int .u16 d.mru.toNat) ∧ w'.cell? ⟨w.heap.size + 1, 1, none⟩ = some (.bool d.ha) ∧ w'.cell? ⟨w.heap.size + 1, 2, none⟩ = some (.int .u32 d.accm.toNat) ∧ w'.cell? ⟨w.heap.size + 1, 3, none⟩ = some (.int .u8 d.auth.toNat) ∧ w'.cell? ⟨w.heap.size + 1, 4, none⟩ = some (.int .u8 d.takes.toNat) ∧ w'.cell? ⟨w.heap.size + 1, 5, none⟩ = some (.int .u8 d.can.toNat) ∧ w'.cell? ⟨w.heap.size + 1, 6, none⟩ = some (.bool d.mg) ∧ w'.cell? ⟨w.heap.size + 1, 7, none⟩ = some (.bool d.pfc) ∧ w'.cell? ⟨w.heap.size + 1, 8, none⟩ = some (.bool d.acfc) ∧ w'.cell? ⟨w.heap.size + 1, 9, none⟩ = some (.int .i64 d.mn))
    (first | (with_reducible assumption) | (refine ⟨?_, ?_, ?_, ?_, ?_, ?_, ?_, ?_, ?_, ?_⟩ <;> with_reducible assumption) | (go_split_ands; refine ⟨?_, ?_, ?_, ?_, ?_, ?_, ?_, ?_, ?_, ?_⟩ <;> with_reducible assumption))
    (first
      | (go_at_call 7; refine (A0.out _).mono ?_; rintro e w5 ⟨rfl, hb⟩; replace HC := Lib.hid (HC.out.callee hb); replace HD := Lib.hid (HD.out.callee hb); replace HV := Lib.hid (HV.out.trans (hb.mono HV.out.size)); clear k0 k1 k2 k3 k4 k5 k6 k7 k8 k9; obtain ⟨k0, k1, k2, k3, k4, k5, k6, k7, k8, k9⟩ := HD.out.all; clear hb)
      | (go_at_call 6; refine (Nd.out _).mono ?_; rintro e w6 ⟨rfl, hb⟩; replace HC := Lib.hid (HC.out.callee hb); replace HD := Lib.hid (HD.out.callee hb); replace HV := Lib.hid (HV.out.trans (hb.mono HV.out.size)); clear k0 k1 k2 k3 k4 k5 k6 k7 k8 k9; obtain ⟨k0, k1, k2, k3, k4, k5, k6, k7, k8, k9⟩ := HD.out.all; clear hb)
      | fail)
  clear k0 k1 k2 k3 k4 k5 k6 k7 k8 k9
  obtain ⟨c0, c1, c2, c3, c4, c5, c6, c7, c8, c9⟩ := HC.out.all
  obtain ⟨d0, d1, d2, d3, d4, d5, d6, d7, d8, d9⟩ := HD.out.all
  go_wp2_with fail
  refine (Neg.alive_any _).mono ?_
  rintro e w9 ⟨rfl, hb⟩
  have HE := Lib.hid (HB.out.trans ((HV.out.trans (hb.mono HV.out.size)).mono HB.out.size))
  clear hb
  go_wp2
  go_ret
  exact ⟨rfl, HE.out⟩

set_option maxHeartbeats 16000000 in
set_option maxRecDepth 100000 in
theorem walk_all (c d : Conf) (m n : UInt32) (A : Option Addr) (N k : Nat) (w : World) (hN : N ≤ 200) (h1 : canB c d = true) (h2 : canB d c = true) (h3 : ¬ c.mn < 3) (h4 : ¬ d.mn < 3) (hc : mayC c = true) (hd : mayC d = true) (hI : Ints w w.heap.size A N .u8) :
    Calls Tryz.prog 3 #[.agg #[Value.int .u16 c.mru.toNat, .bool c.ha, .int .u32 c.accm.toNat, .int .u8 c.auth.toNat, .int .u8 c.takes.toNat, .int .u8 c.can.toNat, .bool c.mg, .bool c.pfc, .bool c.acfc, .int .i64 c.mn], .agg #[Value.int .u16 d.mru.toNat, .bool d.ha, .int .u32 d.accm.toNat, .int .u8 d.auth.toNat, .int .u8 d.takes.toNat, .int .u8 d.can.toNat, .bool d.mg, .bool d.pfc, .bool d.acfc, .int .i64 d.mn], .int .u32 m.toNat, .int .u32 n.toNat, .slice A N k] w fun e w' => e = .returned (.bool true) ∧ Below w.heap.size w w' := by
  have g1 : ¬ (200 : Int) < (N : Int) := by omega
  obtain ⟨W, hW0, HW⟩ := boxCD w c d
  have hW : (w.alloc (.cells #[Value.int .u16 c.mru.toNat, .bool c.ha, .int .u32 c.accm.toNat, .int .u8 c.auth.toNat, .int .u8 c.takes.toNat, .int .u8 c.can.toNat, .bool c.mg, .bool c.pfc, .bool c.acfc, .int .i64 c.mn] 25)).alloc (.cells #[Value.int .u16 d.mru.toNat, .bool d.ha, .int .u32 d.accm.toNat, .int .u8 d.auth.toNat, .int .u8 d.takes.toNat, .int .u8 d.can.toNat, .bool d.mg, .bool d.pfc, .bool d.acfc, .int .i64 d.mn] 25) = W := hW0
  clear hW0
  have HB := Lib.hid HW.out.2.2.1
  have HC := Lib.hid HW.out.1
  have HD := Lib.hid HW.out.2.1
  have HC0 := HC
  have HD0 := HD
  have HV := Lib.hid (Below.refl W.heap.size W)
  obtain ⟨c0, c1, c2, c3, c4, c5, c6, c7, c8, c9⟩ := HC.out.all
  obtain ⟨d0, d1, d2, d3, d4, d5, d6, d7, d8, d9⟩ := HD.out.all
  have K1 := Lib.hid (fun w => can_any c d w)
  have K2 := Lib.hid (fun w => can_any d c w)
  clear HW
  rw [h1] at K1
  rw [h2] at K2
  have A0 := Lib.hid Neg.auto_any
  have Nc := Lib.hid (fun w => lcp_ok 3 10 2 c m w may3 hc)
  have Nd := Lib.hid (fun w => lcp_ok 3 10 2 d n w may3 hd)
  have hz : nz 1003 ≠ nz 1004 := by decide
  have hT := two_of (m := 1003) (n := 1004) hc hd h1 h2 (by omega) (by omega) hz
  obtain ⟨aP, gP, eP, rP, vP⟩ := ends_of hT hc hd
  obtain ⟨aQ, gQ, eQ, rQ, vQ⟩ := ends_of hT.symm hd hc
  have hdf := ends_differ hT
  rw [← vP, ← vQ] at hdf
  obtain ⟨T, t1, t2, t3, t4, np, nq, LP, LQ, sp, sq⟩ := lcp_net hT (a0 := kS (newP c m) (newP c 1003) 2) (b0 := kS (newP d n) (newP d 1004) 2) (k_sx _ _ (lok_new 1003 hc)) (k_sx _ _ (lok_new 1004 hd))
  rw [eP, eQ] at sp sq
  obtain ⟨p, xp, -, -, pm, pp, -, -, pb⟩ := sp
  obtain ⟨q, xq, -, -, qm, qp, -, -, qb⟩ := sq
  have Pm : Hid (∀ w b, Pol.PAt w b p → Calls Tryz.prog 11 #[.pointer (some ⟨b, 0, none⟩)] w fun e w' => e = .returned (.agg #[Value.bool (c.mru != 0), .int .u16 c.mru.toNat, .bool c.ha, .int .u32 c.accm.toNat, .int .u8 aP.toNat, .bool c.mg, .int .u32 gP.toNat, .bool c.pfc, .bool c.acfc]) ∧ Below w.heap.size w w') := fun w b h => by
    have h9 := Pol.mine_any b p w h
    unfold Pol.BetQ at h9
    rw [pm] at h9
    exact h9
  have Pp : Hid (∀ w b, Pol.PAt w b p → Calls Tryz.prog 12 #[.pointer (some ⟨b, 0, none⟩)] w fun e w' => e = .returned (.agg #[Value.bool (d.mru != 0), .int .u16 d.mru.toNat, .bool d.ha, .int .u32 d.accm.toNat, .int .u8 aQ.toNat, .bool d.mg, .int .u32 gQ.toNat, .bool d.pfc, .bool d.acfc]) ∧ Below w.heap.size w w') := fun w b h => by
    have h9 := Pol.peer_any b p w h
    unfold Pol.BetQ at h9
    rw [pp] at h9
    exact h9
  have Qm : Hid (∀ w b, Pol.PAt w b q → Calls Tryz.prog 11 #[.pointer (some ⟨b, 0, none⟩)] w fun e w' => e = .returned (.agg #[Value.bool (d.mru != 0), .int .u16 d.mru.toNat, .bool d.ha, .int .u32 d.accm.toNat, .int .u8 aQ.toNat, .bool d.mg, .int .u32 gQ.toNat, .bool d.pfc, .bool d.acfc]) ∧ Below w.heap.size w w') := fun w b h => by
    have h9 := Pol.mine_any b q w h
    unfold Pol.BetQ at h9
    rw [qm] at h9
    exact h9
  have Qp : Hid (∀ w b, Pol.PAt w b q → Calls Tryz.prog 12 #[.pointer (some ⟨b, 0, none⟩)] w fun e w' => e = .returned (.agg #[Value.bool (c.mru != 0), .int .u16 c.mru.toNat, .bool c.ha, .int .u32 c.accm.toNat, .int .u8 aP.toNat, .bool c.mg, .int .u32 gP.toNat, .bool c.pfc, .bool c.acfc]) ∧ Below w.heap.size w w') := fun w b h => by
    have h9 := Pol.peer_any b q w h
    unfold Pol.BetQ at h9
    rw [qp] at h9
    exact h9
  have PB : Hid (∀ w b, Pol.PAt w b p → Calls Tryz.prog 13 #[.pointer (some ⟨b, 0, none⟩)] w fun e w' => e = .returned (.bool false) ∧ Below w.heap.size w w') := fun w b h => by
    have h9 := Pol.bad_any b p w h
    rw [pb] at h9
    exact h9.mono fun e w' ⟨h1, h2⟩ => ⟨h1, h2 ▸ Below.refl _ _⟩
  have QB : Hid (∀ w b, Pol.PAt w b q → Calls Tryz.prog 13 #[.pointer (some ⟨b, 0, none⟩)] w fun e w' => e = .returned (.bool false) ∧ Below w.heap.size w w') := fun w b h => by
    have h9 := Pol.bad_any b q w h
    rw [qb] at h9
    exact h9.mono fun e w' ⟨h1, h2⟩ => ⟨h1, h2 ▸ Below.refl _ _⟩
  have G1 := Lib.hid (fun w => agreed_any c d aP gP rP w)
  have G2 := Lib.hid (fun w => agreed_any d c aQ gQ rQ w)
  have HJ := Lib.hid (fun (w W : World) (x y : Ad) h1 h2 h3 h4 h5 => join_anyd (newP c m) (newP d n) (newP c 1003) (newP d 1004) (lok_new m hc) (lok_new n hd) rfl rfl (w := w) (W := W) x y h1 h2 h3 h4 h5)
  have HRn : Hid (∀ (V U : World) (gw : Nat) (x y : Ad) (vA vB : Value), Ints V V.heap.size A N .u8 → Wi lcK V U gw x y (kS (newP c m) (newP c 1003) 2) (kS (newP d n) (newP d 1004) 2) vA vB (kT (newP d 1004) 2) (kT (newP c 1003) 2) 0 →
      Calls Tryz.prog 9 #[.pointer (some ⟨gw, 0, none⟩), .slice A N k, .int .i64 16] U fun e w' => e = .returned (.bool true) ∧ ∃ vA vB s, Wi lcK V w' gw x y (T.SA T.N) (T.SB T.N) vA vB [] [] s) := fun V U gw x y vA vB hI h => by
    rw [show kT (newP d 1004) 2 = [⟨1, 1, reqD lcK (newP d 1004)⟩] from rfl, show kT (newP c 1003) 2 = [⟨1, 1, reqD lcK (newP c 1003)⟩] from rfl, ← t3, ← t4, ← t1, ← t2] at h
    exact run_any T A N k U h hI hN xp.hst xq.hst
  have HSp : Hid (∀ W g a r, SAt lcK W g a r (T.SA T.N) → Calls Tryz.prog 10 #[.pointer (some ⟨g, 0, none⟩)] W fun e w' => ∃ b, e = .returned (.pointer (some ⟨b, 0, none⟩)) ∧ Pol.PAt w' b p ∧ Below W.heap.size W w') := fun W g a r h => by
    have h9 := side_lcp g a r _ W h
    rw [xp.hp] at h9
    exact h9.mono fun e w' ⟨b, h1, _, h2, h3⟩ => ⟨b, h1, h2, h3⟩
  have HSq : Hid (∀ W g a r, SAt lcK W g a r (T.SB T.N) → Calls Tryz.prog 10 #[.pointer (some ⟨g, 0, none⟩)] W fun e w' => ∃ b, e = .returned (.pointer (some ⟨b, 0, none⟩)) ∧ Pol.PAt w' b q ∧ Below W.heap.size W w') := fun W g a r h => by
    have h9 := side_lcp g a r _ W h
    rw [xq.hp] at h9
    exact h9.mono fun e w' ⟨b, h1, _, h2, h3⟩ => ⟨b, h1, h2, h3⟩
  have E1 : ∀ W, (binOp .neq 42 (.agg #[Value.bool (c.mru != 0), .int .u16 c.mru.toNat, .bool c.ha, .int .u32 c.accm.toNat, .int .u8 aP.toNat, .bool c.mg, .int .u32 gP.toNat, .bool c.pfc, .bool c.acfc]) (.agg #[Value.bool (c.mru != 0), .int .u16 c.mru.toNat, .bool c.ha, .int .u32 c.accm.toNat, .int .u8 aP.toNat, .bool c.mg, .int .u32 gP.toNat, .bool c.pfc, .bool c.acfc])).run Tryz.prog W = .ok (.bool false) W := fun W => Lco.lcp_neq (x := fin c aP gP) (y := fin c aP gP) (decide_eq_true rfl) W
  have E2 : ∀ W, (binOp .neq 42 (.agg #[Value.bool (d.mru != 0), .int .u16 d.mru.toNat, .bool d.ha, .int .u32 d.accm.toNat, .int .u8 aQ.toNat, .bool d.mg, .int .u32 gQ.toNat, .bool d.pfc, .bool d.acfc]) (.agg #[Value.bool (d.mru != 0), .int .u16 d.mru.toNat, .bool d.ha, .int .u32 d.accm.toNat, .int .u8 aQ.toNat, .bool d.mg, .int .u32 gQ.toNat, .bool d.pfc, .bool d.acfc])).run Tryz.prog W = .ok (.bool false) W := fun W => Lco.lcp_neq (x := fin d aQ gQ) (y := fin d aQ gQ) (decide_eq_true rfl) W
  have E3 : ∀ W, (Op.equalIn 10000 42 (.agg #[Value.bool (c.mru != 0), .int .u16 c.mru.toNat, .bool c.ha, .int .u32 c.accm.toNat, .int .u8 aP.toNat, .bool c.mg, .int .u32 gP.toNat, .bool c.pfc, .bool c.acfc]) (.agg #[Value.bool (c.mru != 0), .int .u16 c.mru.toNat, .bool c.ha, .int .u32 c.accm.toNat, .int .u8 aP.toNat, .bool c.mg, .int .u32 gP.toNat, .bool c.pfc, .bool c.acfc])).run Tryz.prog W = .ok true W := fun W => Lco.lcp_eq (x := fin c aP gP) (y := fin c aP gP) (decide_eq_true rfl) W
  have E4 : ∀ W, (Op.equalIn 10000 42 (.agg #[Value.bool (d.mru != 0), .int .u16 d.mru.toNat, .bool d.ha, .int .u32 d.accm.toNat, .int .u8 aQ.toNat, .bool d.mg, .int .u32 gQ.toNat, .bool d.pfc, .bool d.acfc]) (.agg #[Value.bool (d.mru != 0), .int .u16 d.mru.toNat, .bool d.ha, .int .u32 d.accm.toNat, .int .u8 aQ.toNat, .bool d.mg, .int .u32 gQ.toNat, .bool d.pfc, .bool d.acfc])).run Tryz.prog W = .ok true W := fun W => Lco.lcp_eq (x := fin d aQ gQ) (y := fin d aQ gQ) (decide_eq_true rfl) W
  have HI := Lib.hid hI
  have HDF := Lib.hid hdf
  clear t1 t2 t3 t4 xp xq pm pp pb qm qp qb rP rQ vP vQ eP eQ hT hz hdf hN hI h1 h2 hc hd
  go_enter Tryz.func3, Tryz.ntmps3
  go_wp2_with fail
  refine (K1.out _).mono ?_
  rintro e w1 ⟨rfl, hb⟩
  clear c0 d0 c1 d1 c2 d2 c3 d3 c4 d4 c5 d5 c6 d6 c7 d7 c8 d8 c9 d9
  have HC := Lib.hid (HC.out.callee hb)
  have HD := Lib.hid (HD.out.callee hb)
  have HV := Lib.hid (HV.out.trans (hb.mono HV.out.size))
  clear hb
  obtain ⟨c0, c1, c2, c3, c4, c5, c6, c7, c8, c9⟩ := HC.out.all
  obtain ⟨d0, d1, d2, d3, d4, d5, d6, d7, d8, d9⟩ := HD.out.all
  go_wp2_with fail
  refine (K2.out _).mono ?_
  rintro e w2 ⟨rfl, hb⟩
  clear c0 d0 c1 d1 c2 d2 c3 d3 c4 d4 c5 d5 c6 d6 c7 d7 c8 d8 c9 d9
  have HC := Lib.hid (HC.out.callee hb)
  have HD := Lib.hid (HD.out.callee hb)
  have HV := Lib.hid (HV.out.trans (hb.mono HV.out.size))
  clear hb
  obtain ⟨c0, c1, c2, c3, c4, c5, c6, c7, c8, c9⟩ := HC.out.all
  obtain ⟨d0, d1, d2, d3, d4, d5, d6, d7, d8, d9⟩ := HD.out.all
  go_wp2_with fail
  have hdr2 : Below w2.heap.size w2 w2.drew := (Below.refl _ w2).drew
  clear c0 d0 c1 d1 c2 d2 c3 d3 c4 d4 c5 d5 c6 d6 c7 d7 c8 d8 c9 d9
  have HC := Lib.hid (HC.out.callee hdr2)
  have HD := Lib.hid (HD.out.callee hdr2)
  have HV := Lib.hid (HV.out.trans (hdr2.mono HV.out.size))
  clear hdr2
  obtain ⟨k0, k1, k2, k3, k4, k5, k6, k7, k8, k9⟩ := HC.out.all
  go_region_held3 (fun w' => w'.cell? ⟨w.heap.size, 0, none⟩ = some (Value.int .u16 c.mru.toNat) ∧ w'.cell? ⟨w.heap.size, 1, none⟩ = some (.bool c.ha) ∧ w'.cell? ⟨w.heap.size, 2, none⟩ = some (.int .u32 c.accm.toNat) ∧ w'.cell? ⟨w.heap.size, 3, none⟩ = some (.int .u8 c.auth.toNat) ∧ w'.cell? ⟨w.heap.size, 4, none⟩ = some (.int .u8 c.takes.toNat) ∧ w'.cell? ⟨w.heap.size, 5, none⟩ = some (.int .u8 c.can.toNat) ∧ w'.cell? ⟨w.heap.size, 6, none⟩ = some (.bool c.mg) ∧ w'.cell? ⟨w.heap.size, 7, none⟩ = some (.bool c.pfc) ∧ w'.cell? ⟨w.heap.size, 8, none⟩ = some (.bool c.acfc) ∧ w'.cell? ⟨w.heap.size, 9, none⟩ = some (.int .i64 c.mn))
    (first | (with_reducible assumption) | (refine ⟨?_, ?_, ?_, ?_, ?_, ?_, ?_, ?_, ?_, ?_⟩ <;> with_reducible assumption) | (go_split_ands; refine ⟨?_, ?_, ?_, ?_, ?_, ?_, ?_, ?_, ?_, ?_⟩ <;> with_reducible assumption))
    (first
      | (go_at_call 7; refine (A0.out _).mono ?_; rintro e w3 ⟨rfl, hb⟩; replace HC := Lib.hid (HC.out.callee hb); replace HD := Lib.hid (HD.out.callee hb); replace HV := Lib.hid (HV.out.trans (hb.mono HV.out.size)); clear k0 k1 k2 k3 k4 k5 k6 k7 k8 k9; obtain ⟨k0, k1, k2, k3, k4, k5, k6, k7, k8, k9⟩ := HC.out.all; clear hb)
      | (go_at_call 6; refine (Nc.out _).mono ?_; rintro e w4 ⟨ga, aa, qa, rfl, l1, l2, l3, hs, hb⟩; have HBa := Lib.hid HV.out.size; have HL1 := Lib.hid l1; have HL2 := Lib.hid l2; have HL3 := Lib.hid l3; have HSA := Lib.hid hs; clear l1 l2 l3 hs; replace HC := Lib.hid (HC.out.callee hb); replace HD := Lib.hid (HD.out.callee hb); replace HV := Lib.hid (HV.out.trans (hb.mono HV.out.size)); clear k0 k1 k2 k3 k4 k5 k6 k7 k8 k9; obtain ⟨k0, k1, k2, k3, k4, k5, k6, k7, k8, k9⟩ := HC.out.all; clear hb)
      | fail)
  clear k0 k1 k2 k3 k4 k5 k6 k7 k8 k9
  obtain ⟨c0, c1, c2, c3, c4, c5, c6, c7, c8, c9⟩ := HC.out.all
  obtain ⟨d0, d1, d2, d3, d4, d5, d6, d7, d8, d9⟩ := HD.out.all
  have L1 : Hid (∀ k, Mn ⟨ga, aa, qa⟩ k → w3.heap.size ≤ k ∧ k < w4.heap.size) := fun k hk => by
    have h9 := HSA.out.old k hk
    rcases hk with rfl | rfl | rfl
    · exact ⟨HL1.out, h9⟩
    · exact ⟨HL2.out, h9⟩
    · exact ⟨HL3.out, h9⟩
  clear HL1 HL2 HL3
  go_wp2_with fail
  have hdr4 : Below w4.heap.size w4 w4.drew := (Below.refl _ w4).drew
  clear c0 d0 c1 d1 c2 d2 c3 d3 c4 d4 c5 d5 c6 d6 c7 d7 c8 d8 c9 d9
  have HC := Lib.hid (HC.out.callee hdr4)
  have HD := Lib.hid (HD.out.callee hdr4)
  have HSA := Lib.hid (HSA.out.callee hdr4)
  have HSZ : Hid (w4.heap.size ≤ w4.drew.heap.size) := Nat.le_refl _
  have HV := Lib.hid (HV.out.trans (hdr4.mono HV.out.size))
  clear hdr4
  obtain ⟨k0, k1, k2, k3, k4, k5, k6, k7, k8, k9⟩ := HD.out.all
  go_region_held3 (fun w' => w'.cell? ⟨w.heap.size + 1, 0, none⟩ = some (Value.int .u16 d.mru.toNat) ∧ w'.cell? ⟨w.heap.size + 1, 1, none⟩ = some (.bool d.ha) ∧ w'.cell? ⟨w.heap.size + 1, 2, none⟩ = some (.int .u32 d.accm.toNat) ∧ w'.cell? ⟨w.heap.size + 1, 3, none⟩ = some (.int .u8 d.auth.toNat) ∧ w'.cell? ⟨w.heap.size + 1, 4, none⟩ = some (.int .u8 d.takes.toNat) ∧ w'.cell? ⟨w.heap.size + 1, 5, none⟩ = some (.int .u8 d.can.toNat) ∧ w'.cell? ⟨w.heap.size + 1, 6, none⟩ = some (.bool d.mg) ∧ w'.cell? ⟨w.heap.size + 1, 7, none⟩ = some (.bool d.pfc) ∧ w'.cell? ⟨w.heap.size + 1, 8, none⟩ = some (.bool d.acfc) ∧ w'.cell? ⟨w.heap.size + 1, 9, none⟩ = some (.int .i64 d.mn))
    (first | (with_reducible assumption) | (refine ⟨?_, ?_, ?_, ?_, ?_, ?_, ?_, ?_, ?_, ?_⟩ <;> with_reducible assumption) | (go_split_ands; refine ⟨?_, ?_, ?_, ?_, ?_, ?_, ?_, ?_, ?_, ?_⟩ <;> with_reducible assumption))
    (first
      | (go_at_call 7; refine (A0.out _).mono ?_; rintro e w5 ⟨rfl, hb⟩; replace HC := Lib.hid (HC.out.callee hb); replace HD := Lib.hid (HD.out.callee hb); replace HSA := Lib.hid (HSA.out.callee hb); replace HSZ := Lib.hid (Nat.le_trans HSZ.out hb.size); replace HV := Lib.hid (HV.out.trans (hb.mono HV.out.size)); clear k0 k1 k2 k3 k4 k5 k6 k7 k8 k9; obtain ⟨k0, k1, k2, k3, k4, k5, k6, k7, k8, k9⟩ := HD.out.all; clear hb)
      | (go_at_call 6; refine (Nd.out _).mono ?_; rintro e w6 ⟨gb, ab, qb, rfl, l1, l2, l3, hs, hb⟩; have HZ5 := Lib.hid HSZ.out; have HBb := Lib.hid HV.out.size; have HM1 := Lib.hid l1; have HM2 := Lib.hid l2; have HM3 := Lib.hid l3; have HSB := Lib.hid hs; clear l1 l2 l3 hs; replace HC := Lib.hid (HC.out.callee hb); replace HD := Lib.hid (HD.out.callee hb); replace HSA := Lib.hid (HSA.out.callee hb); replace HSZ := Lib.hid (Nat.le_trans HSZ.out hb.size); replace HV := Lib.hid (HV.out.trans (hb.mono HV.out.size)); clear k0 k1 k2 k3 k4 k5 k6 k7 k8 k9; obtain ⟨k0, k1, k2, k3, k4, k5, k6, k7, k8, k9⟩ := HD.out.all; clear hb)
      | fail)
  clear k0 k1 k2 k3 k4 k5 k6 k7 k8 k9
  obtain ⟨c0, c1, c2, c3, c4, c5, c6, c7, c8, c9⟩ := HC.out.all
  obtain ⟨d0, d1, d2, d3, d4, d5, d6, d7, d8, d9⟩ := HD.out.all
  have HDj : Hid (∀ k, Mn ⟨ga, aa, qa⟩ k → ¬ Mn ⟨gb, ab, qb⟩ k) := fun k hk hk' => by
    have h9 := (L1.out k hk).2
    have h8 := HZ5.out
    rcases hk' with e | e | e
    · have h7 : w5.heap.size ≤ gb := HM1.out
      have e' : k = gb := e
      omega
    · have h7 : w5.heap.size ≤ ab := HM2.out
      have e' : k = ab := e
      omega
    · have h7 : w5.heap.size ≤ qb := HM3.out
      have e' : k = qb := e
      omega
  have HLo : Hid (∀ k, Mn ⟨ga, aa, qa⟩ k ∨ Mn ⟨gb, ab, qb⟩ k → W.heap.size ≤ k) := fun k hk => by
    rcases hk with hk | hk
    · exact Nat.le_trans HBa.out (L1.out k hk).1
    · rcases hk with rfl | rfl | rfl
      · exact Nat.le_trans HBb.out HM1.out
      · exact Nat.le_trans HBb.out HM2.out
      · exact Nat.le_trans HBb.out HM3.out
  have HIW : Hid (Ints W W.heap.size A N .u8) := ints_more HI.out HB.out HB.out.size
  clear L1 HZ5 HM1 HM2 HM3 HBa HBb HSZ HI A0 Nc Nd K1 K2
  clear c0 c1 c2 c3 c4 c5 c6 c7 c8 c9 d0 d1 d2 d3 d4 d5 d6 d7 d8 d9 HC HD
  go_wp2_with fail
  refine (HJ.out W _ ⟨ga, aa, qa⟩ ⟨gb, ab, qb⟩ HSA.out HSB.out HDj.out HLo.out HV.out).mono ?_
  rintro e w7 ⟨gw, vA, vB, rfl, hw⟩
  have HW7 := Lib.hid hw
  clear hw HJ HSA HSB HDj HLo HV
  go_wp2_with fail
  refine (HRn.out W _ gw _ _ vA vB HIW.out HW7.out).mono ?_
  rintro e w8 ⟨rfl, vA', vB', s', hw⟩
  have HW8 := Lib.hid hw
  clear hw HW7 HRn HIW
  go_wp2_with fail
  refine (HSp.out _ _ _ _ HW8.out.sa).mono ?_
  rintro e w9 ⟨bx, rfl, hp, hb⟩
  have HW9 := Lib.hid (HW8.out.callee hb)
  have HP9 := Lib.hid hp
  clear hp hb HW8 HSp
  go_wp2_with fail
  refine (HSq.out _ _ _ _ HW9.out.sb).mono ?_
  rintro e w10 ⟨by10, rfl, hq, hb⟩
  have HP10 := Lib.hid (HP9.out.callee hb)
  have HQ10 := Lib.hid hq
  have H10 := Lib.hid (HW9.out.callee hb).hb
  clear hq hb HW9 HP9 HSq
  go_wp2_with fail
  refine (Pm.out _ _ HP10.out).mono ?_
  rintro e w11 ⟨rfl, hb⟩
  have HP11 := Lib.hid (HP10.out.callee hb)
  have HQ11 := Lib.hid (HQ10.out.callee hb)
  have H11 := Lib.hid (H10.out.trans (hb.mono H10.out.size))
  clear hb HP10 HQ10 H10
  go_wp2_with fail
  refine (Qp.out _ _ HQ11.out).mono ?_
  rintro e w12 ⟨rfl, hb⟩
  have HP12 := Lib.hid (HP11.out.callee hb)
  have HQ12 := Lib.hid (HQ11.out.callee hb)
  have H12 := Lib.hid (H11.out.trans (hb.mono H11.out.size))
  clear hb HP11 HQ11 H11
  go_wp2_with fail
  refine (Qm.out _ _ HQ12.out).mono ?_
  rintro e w13 ⟨rfl, hb⟩
  have HP13 := Lib.hid (HP12.out.callee hb)
  have HQ13 := Lib.hid (HQ12.out.callee hb)
  have H13 := Lib.hid (H12.out.trans (hb.mono H12.out.size))
  clear hb HP12 HQ12 H12
  go_wp2_with fail
  refine (Pp.out _ _ HP13.out).mono ?_
  rintro e w14 ⟨rfl, hb⟩
  have HP14 := Lib.hid (HP13.out.callee hb)
  have HQ14 := Lib.hid (HQ13.out.callee hb)
  have H14 := Lib.hid (H13.out.trans (hb.mono H13.out.size))
  clear hb HP13 HQ13 H13
  go_wp2_with fail
  refine (PB.out _ _ HP14.out).mono ?_
  rintro e w15 ⟨rfl, hb⟩
  have HP15 := Lib.hid (HP14.out.callee hb)
  have HQ15 := Lib.hid (HQ14.out.callee hb)
  have H15 := Lib.hid (H14.out.trans (hb.mono H14.out.size))
  clear hb HP14 HQ14 H14
  go_wp2_with fail
  refine (QB.out _ _ HQ15.out).mono ?_
  rintro e w16 ⟨rfl, hb⟩
  have HP16 := Lib.hid (HP15.out.callee hb)
  have HQ16 := Lib.hid (HQ15.out.callee hb)
  have H16 := Lib.hid (H15.out.trans (hb.mono H15.out.size))
  clear hb HP15 HQ15 H15
  go_wp2_with fail
  refine (Pm.out _ _ HP16.out).mono ?_
  rintro e w17 ⟨rfl, hb⟩
  have HP17 := Lib.hid (HP16.out.callee hb)
  have HQ17 := Lib.hid (HQ16.out.callee hb)
  have H17 := Lib.hid (H16.out.trans (hb.mono H16.out.size))
  clear hb HP16 HQ16 H16
  go_wp2_with fail
  refine (Qm.out _ _ HQ17.out).mono ?_
  rintro e w18 ⟨rfl, hb⟩
  have HP18 := Lib.hid (HP17.out.callee hb)
  have HQ18 := Lib.hid (HQ17.out.callee hb)
  have H18 := Lib.hid (H17.out.trans (hb.mono H17.out.size))
  clear hb HP17 HQ17 H17
  have HCv := Lib.hid (HC0.out.callee H18.out)
  have HDv := Lib.hid (HD0.out.callee H18.out)
  have hal : Below w18.heap.size w18 ((w18.alloc (.cells #[Value.bool (c.mru != 0), .int .u16 c.mru.toNat, .bool c.ha, .int .u32 c.accm.toNat, .int .u8 aP.toNat, .bool c.mg, .int .u32 gP.toNat, .bool c.pfc, .bool c.acfc] 42)).alloc (.cells #[Value.bool (d.mru != 0), .int .u16 d.mru.toNat, .bool d.ha, .int .u32 d.accm.toNat, .int .u8 aQ.toNat, .bool d.mg, .int .u32 gQ.toNat, .bool d.pfc, .bool d.acfc] 42)) := ((Below.refl _ _).alloc (Nat.le_refl _) _).alloc (by rw [World.size_alloc]; omega) _
  have X1 : Hid (Blk ((w18.alloc (.cells #[Value.bool (c.mru != 0), .int .u16 c.mru.toNat, .bool c.ha, .int .u32 c.accm.toNat, .int .u8 aP.toNat, .bool c.mg, .int .u32 gP.toNat, .bool c.pfc, .bool c.acfc] 42)).alloc (.cells #[Value.bool (d.mru != 0), .int .u16 d.mru.toNat, .bool d.ha, .int .u32 d.accm.toNat, .int .u8 aQ.toNat, .bool d.mg, .int .u32 gQ.toNat, .bool d.pfc, .bool d.acfc] 42)) w18.heap.size [Value.bool (c.mru != 0), .int .u16 c.mru.toNat, .bool c.ha, .int .u32 c.accm.toNat, .int .u8 aP.toNat, .bool c.mg, .int .u32 gP.toNat, .bool c.pfc, .bool c.acfc] 42) := (blk_new w18 [Value.bool (c.mru != 0), .int .u16 c.mru.toNat, .bool c.ha, .int .u32 c.accm.toNat, .int .u8 aP.toNat, .bool c.mg, .int .u32 gP.toNat, .bool c.pfc, .bool c.acfc] _).alloc _
  have X2 : Hid (Blk ((w18.alloc (.cells #[Value.bool (c.mru != 0), .int .u16 c.mru.toNat, .bool c.ha, .int .u32 c.accm.toNat, .int .u8 aP.toNat, .bool c.mg, .int .u32 gP.toNat, .bool c.pfc, .bool c.acfc] 42)).alloc (.cells #[Value.bool (d.mru != 0), .int .u16 d.mru.toNat, .bool d.ha, .int .u32 d.accm.toNat, .int .u8 aQ.toNat, .bool d.mg, .int .u32 gQ.toNat, .bool d.pfc, .bool d.acfc] 42)) (w18.heap.size + 1) [Value.bool (d.mru != 0), .int .u16 d.mru.toNat, .bool d.ha, .int .u32 d.accm.toNat, .int .u8 aQ.toNat, .bool d.mg, .int .u32 gQ.toNat, .bool d.pfc, .bool d.acfc] 42) := by
    have h := blk_new (w18.alloc (.cells #[Value.bool (c.mru != 0), .int .u16 c.mru.toNat, .bool c.ha, .int .u32 c.accm.toNat, .int .u8 aP.toNat, .bool c.mg, .int .u32 gP.toNat, .bool c.pfc, .bool c.acfc] 42)) [Value.bool (d.mru != 0), .int .u16 d.mru.toNat, .bool d.ha, .int .u32 d.accm.toNat, .int .u8 aQ.toNat, .bool d.mg, .int .u32 gQ.toNat, .bool d.pfc, .bool d.acfc] 42
    rw [World.size_alloc] at h
    exact h
  have HCw := Lib.hid (HCv.out.callee hal)
  have HDw := Lib.hid (HDv.out.callee hal)
  have Hw := Lib.hid (H18.out.trans (hal.mono H18.out.size))
  clear hal HCv HDv HP18 HQ18 H18 Pm Pp Qm Qp PB QB
  obtain ⟨U, hU⟩ : ∃ U, ((w18.alloc (.cells #[Value.bool (c.mru != 0), .int .u16 c.mru.toNat, .bool c.ha, .int .u32 c.accm.toNat, .int .u8 aP.toNat, .bool c.mg, .int .u32 gP.toNat, .bool c.pfc, .bool c.acfc] 42)).alloc (.cells #[Value.bool (d.mru != 0), .int .u16 d.mru.toNat, .bool d.ha, .int .u32 d.accm.toNat, .int .u8 aQ.toNat, .bool d.mg, .int .u32 gQ.toNat, .bool d.pfc, .bool d.acfc] 42)) = U := ⟨_, rfl⟩
  rw [hU] at X1 X2 HCw HDw Hw
  have x0 : U.cell? ⟨w18.heap.size, 0, none⟩ = some (Value.bool (c.mru != 0)) := X1.out.at_ 0
  have x1 : U.cell? ⟨w18.heap.size, 1, none⟩ = some (.int .u16 c.mru.toNat) := X1.out.at_ 1
  have x2 : U.cell? ⟨w18.heap.size, 2, none⟩ = some (.bool c.ha) := X1.out.at_ 2
  have x3 : U.cell? ⟨w18.heap.size, 3, none⟩ = some (.int .u32 c.accm.toNat) := X1.out.at_ 3
  have x4 : U.cell? ⟨w18.heap.size, 4, none⟩ = some (.int .u8 aP.toNat) := X1.out.at_ 4
  have x5 : U.cell? ⟨w18.heap.size, 5, none⟩ = some (.bool c.mg) := X1.out.at_ 5
  have x6 : U.cell? ⟨w18.heap.size, 6, none⟩ = some (.int .u32 gP.toNat) := X1.out.at_ 6
  have x7 : U.cell? ⟨w18.heap.size, 7, none⟩ = some (.bool c.pfc) := X1.out.at_ 7
  have x8 : U.cell? ⟨w18.heap.size, 8, none⟩ = some (.bool c.acfc) := X1.out.at_ 8
  have y0 : U.cell? ⟨w18.heap.size + 1, 0, none⟩ = some (Value.bool (d.mru != 0)) := X2.out.at_ 0
  have y1 : U.cell? ⟨w18.heap.size + 1, 1, none⟩ = some (.int .u16 d.mru.toNat) := X2.out.at_ 1
  have y2 : U.cell? ⟨w18.heap.size + 1, 2, none⟩ = some (.bool d.ha) := X2.out.at_ 2
  have y3 : U.cell? ⟨w18.heap.size + 1, 3, none⟩ = some (.int .u32 d.accm.toNat) := X2.out.at_ 3
  have y4 : U.cell? ⟨w18.heap.size + 1, 4, none⟩ = some (.int .u8 aQ.toNat) := X2.out.at_ 4
  have y5 : U.cell? ⟨w18.heap.size + 1, 5, none⟩ = some (.bool d.mg) := X2.out.at_ 5
  have y6 : U.cell? ⟨w18.heap.size + 1, 6, none⟩ = some (.int .u32 gQ.toNat) := X2.out.at_ 6
  have y7 : U.cell? ⟨w18.heap.size + 1, 7, none⟩ = some (.bool d.pfc) := X2.out.at_ 7
  have y8 : U.cell? ⟨w18.heap.size + 1, 8, none⟩ = some (.bool d.acfc) := X2.out.at_ 8
  obtain ⟨c0, c1, c2, c3, c4, c5, c6, c7, c8, c9⟩ := HCw.out.all
  obtain ⟨d0, d1, d2, d3, d4, d5, d6, d7, d8, d9⟩ := HDw.out.all
  have hmm : (c.mg && (d.mg && (gP == gQ))) = false := HDF.out
  cases hcm : c.mg
  · rw [hcm] at hU G1 G2
    clear hmm
    go_wp2_with fail
    refine (G1.out _).mono ?_
    rintro e w19 ⟨rfl, hb⟩
    clear x0 x1 x2 x3 x4 x5 x6 x7 x8 y0 y1 y2 y3 y4 y5 y6 y7 y8 c0 c1 c2 c3 c4 c5 c6 c7 c8 c9 d0 d1 d2 d3 d4 d5 d6 d7 d8 d9
    have X2 := Lib.hid (X2.out.callee hb)
    have HCw := Lib.hid (HCw.out.callee hb)
    have HDw := Lib.hid (HDw.out.callee hb)
    have Hw := Lib.hid (Hw.out.trans (hb.mono Hw.out.size))
    clear hb
    have y0 : w19.cell? ⟨w18.heap.size + 1, 0, none⟩ = some (Value.bool (d.mru != 0)) := X2.out.at_ 0
    have y1 : w19.cell? ⟨w18.heap.size + 1, 1, none⟩ = some (.int .u16 d.mru.toNat) := X2.out.at_ 1
    have y2 : w19.cell? ⟨w18.heap.size + 1, 2, none⟩ = some (.bool d.ha) := X2.out.at_ 2
    have y3 : w19.cell? ⟨w18.heap.size + 1, 3, none⟩ = some (.int .u32 d.accm.toNat) := X2.out.at_ 3
    have y4 : w19.cell? ⟨w18.heap.size + 1, 4, none⟩ = some (.int .u8 aQ.toNat) := X2.out.at_ 4
    have y5 : w19.cell? ⟨w18.heap.size + 1, 5, none⟩ = some (.bool d.mg) := X2.out.at_ 5
    have y6 : w19.cell? ⟨w18.heap.size + 1, 6, none⟩ = some (.int .u32 gQ.toNat) := X2.out.at_ 6
    have y7 : w19.cell? ⟨w18.heap.size + 1, 7, none⟩ = some (.bool d.pfc) := X2.out.at_ 7
    have y8 : w19.cell? ⟨w18.heap.size + 1, 8, none⟩ = some (.bool d.acfc) := X2.out.at_ 8
    obtain ⟨c0, c1, c2, c3, c4, c5, c6, c7, c8, c9⟩ := HCw.out.all
    obtain ⟨d0, d1, d2, d3, d4, d5, d6, d7, d8, d9⟩ := HDw.out.all
    go_wp2_with fail
    refine (G2.out _).mono ?_
    rintro e w20 ⟨rfl, hb⟩
    have Hw := Lib.hid (Hw.out.trans (hb.mono Hw.out.size))
    clear hb
    go_wp2_with fail
    refine (Neg.alive_any _).mono ?_
    rintro e w21 ⟨rfl, hb⟩
    have Hz := Lib.hid (HB.out.trans ((Hw.out.trans (hb.mono Hw.out.size)).mono HB.out.size))
    clear hb
    go_wp2
    go_ret
    exact ⟨rfl, Hz.out⟩
  · cases hdm : d.mg
    · rw [hcm, hdm] at hU G1 G2
      clear hmm
      go_wp2_with fail
      refine (G1.out _).mono ?_
      rintro e w19 ⟨rfl, hb⟩
      clear x0 x1 x2 x3 x4 x5 x6 x7 x8 y0 y1 y2 y3 y4 y5 y6 y7 y8 c0 c1 c2 c3 c4 c5 c6 c7 c8 c9 d0 d1 d2 d3 d4 d5 d6 d7 d8 d9
      have X2 := Lib.hid (X2.out.callee hb)
      have HCw := Lib.hid (HCw.out.callee hb)
      have HDw := Lib.hid (HDw.out.callee hb)
      have Hw := Lib.hid (Hw.out.trans (hb.mono Hw.out.size))
      clear hb
      have y0 : w19.cell? ⟨w18.heap.size + 1, 0, none⟩ = some (Value.bool (d.mru != 0)) := X2.out.at_ 0
      have y1 : w19.cell? ⟨w18.heap.size + 1, 1, none⟩ = some (.int .u16 d.mru.toNat) := X2.out.at_ 1
      have y2 : w19.cell? ⟨w18.heap.size + 1, 2, none⟩ = some (.bool d.ha) := X2.out.at_ 2
      have y3 : w19.cell? ⟨w18.heap.size + 1, 3, none⟩ = some (.int .u32 d.accm.toNat) := X2.out.at_ 3
      have y4 : w19.cell? ⟨w18.heap.size + 1, 4, none⟩ = some (.int .u8 aQ.toNat) := X2.out.at_ 4
      have y5 : w19.cell? ⟨w18.heap.size + 1, 5, none⟩ = some (.bool d.mg) := X2.out.at_ 5
      have y6 : w19.cell? ⟨w18.heap.size + 1, 6, none⟩ = some (.int .u32 gQ.toNat) := X2.out.at_ 6
      have y7 : w19.cell? ⟨w18.heap.size + 1, 7, none⟩ = some (.bool d.pfc) := X2.out.at_ 7
      have y8 : w19.cell? ⟨w18.heap.size + 1, 8, none⟩ = some (.bool d.acfc) := X2.out.at_ 8
      obtain ⟨c0, c1, c2, c3, c4, c5, c6, c7, c8, c9⟩ := HCw.out.all
      obtain ⟨d0, d1, d2, d3, d4, d5, d6, d7, d8, d9⟩ := HDw.out.all
      go_wp2_with fail
      refine (G2.out _).mono ?_
      rintro e w20 ⟨rfl, hb⟩
      have Hw := Lib.hid (Hw.out.trans (hb.mono Hw.out.size))
      clear hb
      go_wp2_with fail
      refine (Neg.alive_any _).mono ?_
      rintro e w21 ⟨rfl, hb⟩
      have Hz := Lib.hid (HB.out.trans ((Hw.out.trans (hb.mono Hw.out.size)).mono HB.out.size))
      clear hb
      go_wp2
      go_ret
      exact ⟨rfl, Hz.out⟩
    · rw [hcm, hdm] at hU G1 G2
      rw [hcm, hdm, Bool.true_and, Bool.true_and] at hmm
      have hmg : ((gP.toNat : Int) == gQ.toNat) = false := by rw [magic_u32]; exact hmm
      clear hmm
      go_wp2_with fail
      refine (G1.out _).mono ?_
      rintro e w19 ⟨rfl, hb⟩
      clear x0 x1 x2 x3 x4 x5 x6 x7 x8 y0 y1 y2 y3 y4 y5 y6 y7 y8 c0 c1 c2 c3 c4 c5 c6 c7 c8 c9 d0 d1 d2 d3 d4 d5 d6 d7 d8 d9
      have X2 := Lib.hid (X2.out.callee hb)
      have HCw := Lib.hid (HCw.out.callee hb)
      have HDw := Lib.hid (HDw.out.callee hb)
      have Hw := Lib.hid (Hw.out.trans (hb.mono Hw.out.size))
      clear hb
      have y0 : w19.cell? ⟨w18.heap.size + 1, 0, none⟩ = some (Value.bool (d.mru != 0)) := X2.out.at_ 0
      have y1 : w19.cell? ⟨w18.heap.size + 1, 1, none⟩ = some (.int .u16 d.mru.toNat) := X2.out.at_ 1
      have y2 : w19.cell? ⟨w18.heap.size + 1, 2, none⟩ = some (.bool d.ha) := X2.out.at_ 2
      have y3 : w19.cell? ⟨w18.heap.size + 1, 3, none⟩ = some (.int .u32 d.accm.toNat) := X2.out.at_ 3
      have y4 : w19.cell? ⟨w18.heap.size + 1, 4, none⟩ = some (.int .u8 aQ.toNat) := X2.out.at_ 4
      have y5 : w19.cell? ⟨w18.heap.size + 1, 5, none⟩ = some (.bool d.mg) := X2.out.at_ 5
      have y6 : w19.cell? ⟨w18.heap.size + 1, 6, none⟩ = some (.int .u32 gQ.toNat) := X2.out.at_ 6
      have y7 : w19.cell? ⟨w18.heap.size + 1, 7, none⟩ = some (.bool d.pfc) := X2.out.at_ 7
      have y8 : w19.cell? ⟨w18.heap.size + 1, 8, none⟩ = some (.bool d.acfc) := X2.out.at_ 8
      obtain ⟨c0, c1, c2, c3, c4, c5, c6, c7, c8, c9⟩ := HCw.out.all
      obtain ⟨d0, d1, d2, d3, d4, d5, d6, d7, d8, d9⟩ := HDw.out.all
      go_wp2_with fail
      refine (G2.out _).mono ?_
      rintro e w20 ⟨rfl, hb⟩
      have Hw := Lib.hid (Hw.out.trans (hb.mono Hw.out.size))
      clear hb
      go_wp2_with fail
      refine (Neg.alive_any _).mono ?_
      rintro e w21 ⟨rfl, hb⟩
      have Hz := Lib.hid (HB.out.trans ((Hw.out.trans (hb.mono Hw.out.size)).mono HB.out.size))
      clear hb
      go_wp2
      go_ret
      exact ⟨rfl, Hz.out⟩

theorem walk (c d : Conf) (m n : UInt32) (A : Option Addr) (N k : Nat) (w : World) (hI : Ints w w.heap.size A N .u8) :
    Calls Tryz.prog 3 #[.agg #[Value.int .u16 c.mru.toNat, .bool c.ha, .int .u32 c.accm.toNat, .int .u8 c.auth.toNat, .int .u8 c.takes.toNat, .int .u8 c.can.toNat, .bool c.mg, .bool c.pfc, .bool c.acfc, .int .i64 c.mn], .agg #[Value.int .u16 d.mru.toNat, .bool d.ha, .int .u32 d.accm.toNat, .int .u8 d.auth.toNat, .int .u8 d.takes.toNat, .int .u8 d.can.toNat, .bool d.mg, .bool d.pfc, .bool d.acfc, .int .i64 d.mn], .int .u32 m.toNat, .int .u32 n.toNat, .slice A N k] w fun e w' => e = .returned (.bool true) ∧ Below w.heap.size w w' := by
  by_cases hN : N ≤ 200
  · cases h1 : canB c d
    · exact walk_can1 c d m n A N k w hN h1
    · cases h2 : canB d c
      · exact walk_can2 c d m n A N k w hN h1 h2
      · by_cases h3 : c.mn < 3
        · exact walk_mn1 c d m n A N k w hN h1 h2 h3
        · by_cases h4 : d.mn < 3
          · exact walk_mn2 c d m n A N k w hN h1 h2 h3 h4
          · cases hc : mayC c
            · cases hd : mayC d
              · exact walk_bad1b c d m n A N k w hN h1 h2 h3 h4 hc hd
              · exact walk_bad1a c d m n A N k w hN h1 h2 h3 h4 hc hd
            · cases hd : mayC d
              · exact walk_bad2 c d m n A N k w hN h1 h2 h3 h4 hc hd
              · exact walk_all c d m n A N k w hN h1 h2 h3 h4 hc hd hI
  · exact walk_long c d m n A N k w hN

set_option maxRecDepth 100000 in
theorem lifted (os : Os) (started : os.Started) (H : Type) (enc : TypeId × Value → H) :
    ReturnsInHanded {} Tryz.checked os 3 .any (Rows.negotMeetsSpec.pre6 enc Tryz.prog Tryz.f3 Rows.negotMeetsRow.domain false) (Rows.negotMeetsSpec.post enc Tryz.prog Tryz.f3 false true false false) := by
  refine returnsInHanded_of_change (C := Tryz.checked) own started (by kernel_rfl) Tryz.func3
    (ChangeSpec.witness6 (enc := enc) (C := Tryz.checked) false ⟨#[], #[.agg #[.int .u16 0, .bool false, .int .u32 0, .int .u8 0, .int .u8 0, .int .u8 0, .bool false, .bool false, .bool false, .int .i64 0], .agg #[.int .u16 0, .bool false, .int .u32 0, .int .u8 0, .int .u8 0, .int .u8 0, .bool false, .bool false, .bool false, .int .i64 0], .int .u32 0, .int .u32 0, .slice none 0 0], []⟩ 8 (by kernel_rfl) (by kernel_rfl) (by kernel_rfl) (by kernel_rfl)) ?_
  intro W base args ds gs before hval0 hW hcnd _
  have hval : ∀ (j : Nat) t v, Tryz.f3.params[j]? = some t → args[j]? = some v → Value.okWide Tryz.prog W .any base t v := hval0
  have hW' := hW
  obtain ⟨p, q, hA0, hV, rfl, hfz, hnd⟩ := hW
  have hlt := hW'.lt
  have hA : DataW.TrodAll enc Tryz.prog W 0 (fun _ => true) true Tryz.f3.params.toList args.toList ds p := hA0
  rw [Tryz.params3] at hA hval
  obtain ⟨v0, vs0, d0, ds0, p0, q0, hargs, rfl, rfl, h0, r0⟩ := trodAll_cons hA
  obtain ⟨v1, vs1, d1, ds1, p1, q1, rfl, rfl, rfl, h1, r1⟩ := trodAll_cons r0
  obtain ⟨v2, vs2, d2, ds2, p2, q2, rfl, rfl, rfl, h2, r2⟩ := trodAll_cons r1
  obtain ⟨v3, vs3, d3, ds3, p3, q3, rfl, rfl, rfl, h3, r3⟩ := trodAll_cons r2
  obtain ⟨v4, vs4, d4, ds4, p4, q4, rfl, rfl, rfl, h4, r4⟩ := trodAll_cons r3
  obtain ⟨rfl, rfl, rfl⟩ := trodAll_nil r4
  obtain rfl : args = #[v0, v1, v2, v3, v4] := by cases args; simp_all
  obtain ⟨rfl, rfl⟩ := trodVars_none hV
  obtain ⟨a0, rfl⟩ := conf_of Tryz.underlying25 (by kernel_rfl) (by kernel_rfl) Tryz.underlying22 Tryz.underlying4 Tryz.underlying23 Tryz.underlying5 Tryz.underlying5 Tryz.underlying5 Tryz.underlying4 Tryz.underlying4 Tryz.underlying4 Tryz.underlying3 (hval 0 25 v0 rfl rfl) h0
  obtain ⟨a1, rfl⟩ := conf_of Tryz.underlying25 (by kernel_rfl) (by kernel_rfl) Tryz.underlying22 Tryz.underlying4 Tryz.underlying23 Tryz.underlying5 Tryz.underlying5 Tryz.underlying5 Tryz.underlying4 Tryz.underlying4 Tryz.underlying4 Tryz.underlying3 (hval 1 25 v1 rfl rfl) h1
  obtain ⟨z2, rfl, rfl, rfl, w2⟩ := open_int Tryz.underlying23 (hval 2 23 v2 rfl rfl) h2
  obtain ⟨a2, rfl⟩ := u32_of (z := z2) (bounds_u32 w2)
  obtain ⟨z3, rfl, rfl, rfl, w3⟩ := open_int Tryz.underlying23 (hval 3 23 v3 rfl rfl) h3
  obtain ⟨a3, rfl⟩ := u32_of (z := z3) (bounds_u32 w3)
  obtain ⟨A4, n4, c4, rfl, m4, hI4⟩ := ints_of Tryz.underlying26 Tryz.underlying5 (by kernel_rfl) (hval 4 26 v4 rfl rfl) h4
  clear hA0 hval0
  exact (walk a0 a1 a2 a3 A4 n4 c4 W hI4).mono fun e W' ⟨he, hb⟩ => ⟨_, he, law_post (t := 4) laidOut (by kernel_rfl) rfl rfl Tryz.underlying4 ⟨rfl, rfl, rfl⟩ hW' hb⟩

theorem over : Rows.negotMeetsRow.holds Tryz.pinned (OpenSpec.ofChange Rows.negotMeetsSpec) :=
  OpenClaim.holds_of_wide 3 Tryz.f3 rfl rfl rfl rfl rfl rfl rfl ⟨rfl, rfl, rfl, rfl, rfl⟩ rfl rfl rfl rfl rfl (by kernel_rfl) Tryz.func3 (by kernel_rfl)
    (of_decide_eq_true (by kernel_rfl)) (by unfold Func.isWrapper; first | (rw [if_pos (by decide +kernel)]; kernel_rfl) | (rw [if_neg (by decide +kernel)]; exact ⟨rfl, rfl⟩))
    (fun os started H enc _ => lifted os started H enc)

theorem proved : Rows.NegotMeetsSaid :=
  over
#print axioms proved
end Go.Proofs.YtpppggicihfbgaaGreat.NegotMeets
