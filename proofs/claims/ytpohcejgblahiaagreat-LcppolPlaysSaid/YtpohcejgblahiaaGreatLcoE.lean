/- Contracts of lcpopt's Good and Known. -/
import Derived.Test.YtpohcejgblahiaaGreatGLcoC
namespace Go.Proofs.YtpohcejgblahiaaGreat.Lco
open Go.RowKit Go.Proofs.YtpohcejgblahiaaGreat.Oct Go.Proofs.YtpohcejgblahiaaGreat.Row Go.Proofs.YtpohcejgblahiaaGreat.Mem Go.Proofs.YtpohcejgblahiaaGreat.Opt


set_option maxHeartbeats 2000000 in
set_option maxRecDepth 100000 in
theorem good_any (t : UInt8) (d : ByteArray) (w : World) (hd : d.size ≤ maxLen) : Calls Tryz.prog 39 #[.agg #[.int .u8 t.toNat, .string d]] w fun e w' => e = .returned (.bool (good (t, d))) ∧ Below w.heap.size w w' := by
  obtain ⟨W, hW, HW⟩ : ∃ W, w.alloc (.cells #[.int .u8 t.toNat, .string d] 51) = W ∧ Hid (At W w.heap.size (t, d) ∧ Below w.heap.size w W) := ⟨_, rfl, at_new w t d, (Below.refl w.heap.size w).alloc (Nat.le_refl _) _⟩
  have HB := Lib.hid HW.out.2
  have C1 := Lib.hid (fun W => meanings_m W)
  have C2 := Lib.hid (fun m W hm => add_any lz t d m W hm hd)
  have c0 : W.cell? ⟨w.heap.size, 0, none⟩ = some (.int .u8 t.toNat) := HW.out.1.c0
  have c1 : W.cell? ⟨w.heap.size, 1, none⟩ = some (.string d) := HW.out.1.c1
  go_enter Tryz.func39, Tryz.ntmps39
  go_wp2
  clear hW
  have d0 : W.drew.cell? ⟨w.heap.size, 0, none⟩ = some (.int .u8 t.toNat) := c0
  have d1 : W.drew.cell? ⟨w.heap.size, 1, none⟩ = some (.string d) := c1
  have HO := Lib.hid HW.out.1
  have s0 : w.heap.size < W.heap.size := Blk.lt HW.out.1
  clear HW
  go_region_with (first
    | (go_at_call 57; refine (C1.out _).mono ?_; rintro e w1 ⟨m, rfl, hm1, hb1⟩; have HZ1 := Lib.hid (LAt.callee (W := (W.alloc (.cells #[Value.bool false, .int .u16 0, .bool false, .int .u32 0, .int .u8 0, .bool false, .int .u32 0, .bool false, .bool false] 37)).drew) (lat_new W lz) hb1); have p0 : w1.cell? ⟨w.heap.size, 0, none⟩ = some (.int .u8 t.toNat) := (At.callee (W := (W.alloc (.cells #[Value.bool false, .int .u16 0, .bool false, .int .u32 0, .int .u8 0, .bool false, .int .u32 0, .bool false, .bool false] 37)).drew) (HO.out.alloc _) hb1).c0; have s1 : w.heap.size < w1.heap.size := Blk.lt (At.callee (W := (W.alloc (.cells #[Value.bool false, .int .u16 0, .bool false, .int .u32 0, .int .u8 0, .bool false, .int .u32 0, .bool false, .bool false] 37)).drew) (HO.out.alloc _) hb1); have p1 : w1.cell? ⟨w.heap.size, 1, none⟩ = some (.string d) := (At.callee (W := (W.alloc (.cells #[Value.bool false, .int .u16 0, .bool false, .int .u32 0, .int .u8 0, .bool false, .int .u32 0, .bool false, .bool false] 37)).drew) (HO.out.alloc _) hb1).c1; have HB1 : Hid (Below w.heap.size w w1) := ((HB.out.alloc HB.out.size _).drew).trans (hb1.mono ((HB.out.alloc HB.out.size _).drew).size); have HM1 := Lib.hid hm1; clear C1 hm1 hb1)
    | (go_at_call 57; refine (C1.out _).mono ?_; rintro e w1 ⟨m, rfl, hm1, hb1⟩; have p0 : w1.cell? ⟨w.heap.size, 0, none⟩ = some (.int .u8 t.toNat) := (At.callee (W := W.drew) HO.out hb1).c0; have s1 : w.heap.size < w1.heap.size := Blk.lt (At.callee (W := W.drew) HO.out hb1); have p1 : w1.cell? ⟨w.heap.size, 1, none⟩ = some (.string d) := (At.callee (W := W.drew) HO.out hb1).c1; have HB1 : Hid (Below w.heap.size w w1) := HB.out.drew.trans (hb1.mono HB.out.drew.size); have HM1 := Lib.hid hm1; clear C1 hm1 hb1)
    | (go_at_call 58; refine (C2.out _ _ HM1.out).mono ?_; rintro e w2 ⟨y, rfl, hy, hb2⟩; have HZ2 := Lib.hid (HZ1.out.callee hb2); obtain ⟨z0, z1, z2, z3, z4, z5, z6, z7, z8, g0, g1, g2, g3, g4, g5, g6, g7, g8⟩ := zall HZ2.out; have HB2 : Hid (Below w.heap.size w w2) := HB1.out.trans (hb2.mono HB1.out.size); clear hb2 hy C2 HM1; unfold lv)
    | (go_at_call 58; refine (C2.out _ _ HM1.out).mono ?_; rintro e w2 ⟨y, rfl, hy, hb2⟩; have HB2 : Hid (Below w.heap.size w w2) := HB1.out.trans (hb2.mono HB1.out.size); clear hb2 hy C2 HM1; unfold lv)
    | (go_at_call 58; refine (C2.out _ _ (HM1.out.alloc _)).mono ?_; rintro e w2 ⟨y, rfl, hy, hb2⟩; have HZ2 := Lib.hid (LAt.callee (W := w1.alloc (.cells #[Value.bool false, .int .u16 0, .bool false, .int .u32 0, .int .u8 0, .bool false, .int .u32 0, .bool false, .bool false] 37)) (lat_new w1 lz) hb2); obtain ⟨z0, z1, z2, z3, z4, z5, z6, z7, z8, g0, g1, g2, g3, g4, g5, g6, g7, g8⟩ := zall HZ2.out; have HB2 : Hid (Below w.heap.size w w2) := (HB1.out.alloc HB1.out.size _).trans (hb2.mono (HB1.out.alloc HB1.out.size _).size); clear hb2 hy C2 HM1; unfold lv)
    | fail)
  all_goals have HS2 := HB2.out.size
  all_goals go_wp2
  all_goals go_ret
  all_goals refine ⟨rfl, ?_⟩
  all_goals first
    | with_reducible exact HB2.out.alloc HS2 _
    | with_reducible exact ((((((((HB2.out.setCell (by first | exact HS2 | exact Nat.le_of_lt s0 | exact Nat.le_of_lt s1) _).setCell (by first | exact HS2 | exact Nat.le_of_lt s0 | exact Nat.le_of_lt s1) _).setCell (by first | exact HS2 | exact Nat.le_of_lt s0 | exact Nat.le_of_lt s1) _).setCell (by first | exact HS2 | exact Nat.le_of_lt s0 | exact Nat.le_of_lt s1) _).setCell (by first | exact HS2 | exact Nat.le_of_lt s0 | exact Nat.le_of_lt s1) _).setCell (by first | exact HS2 | exact Nat.le_of_lt s0 | exact Nat.le_of_lt s1) _).setCell (by first | exact HS2 | exact Nat.le_of_lt s0 | exact Nat.le_of_lt s1) _).setCell (by first | exact HS2 | exact Nat.le_of_lt s0 | exact Nat.le_of_lt s1) _).setCell (by first | exact HS2 | exact Nat.le_of_lt s0 | exact Nat.le_of_lt s1) _
end Go.Proofs.YtpohcejgblahiaaGreat.Lco
