/- Contract of the document's set. -/
import Derived.Test.YtcncmddhjbnggaaGreatLcoL
import Derived.Test.YtcncmddhjbnggaaGreatLcoD
namespace Go.Proofs.YtcncmddhjbnggaaGreat.Lco
open Go.RowKit Go.Proofs.YtcncmddhjbnggaaGreat.Oct Go.Proofs.YtcncmddhjbnggaaGreat.Row Go.Proofs.YtcncmddhjbnggaaGreat.Mem Go.Proofs.YtcncmddhjbnggaaGreat.Opt

set_option maxHeartbeats 2000000 in
theorem rset1 (t : UInt8) (d : ByteArray) (x : Lcp) (w : World) (e : t = 1) (hg : good (t, d) = true) : Calls Tryz.prog 55 #[.agg (lv x).toArray, .agg #[.int .u8 t.toNat, .string d]] w fun e w' => e = .returned (.agg (lv (say x (t, d))).toArray) ∧ Below w.heap.size w w' := by
  show Calls Tryz.prog 55 #[.agg #[Value.bool x.hm, .int .u16 x.mru.toNat, .bool x.ha, .int .u32 x.accm.toNat, .int .u8 x.auth.toNat, .bool x.hg, .int .u32 x.magic.toNat, .bool x.pfc, .bool x.acfc], .agg #[.int .u8 t.toNat, .string d]] w fun e w' => e = .returned (.agg (lv (say x (t, d))).toArray) ∧ Below w.heap.size w w'
  obtain ⟨W, hW, HW⟩ := boxA w x t d
  have q1 : ((t.toNat : Int) == 1) = true := u8_is (n := 1) (by rw [e]; rfl)
  have q2 : ((t.toNat : Int) == 2) = false := u8_not (n := 2) (by rw [e]; decide)
  have q5 : ((t.toNat : Int) == 5) = false := u8_not (n := 5) (by rw [e]; decide)
  have q3 : ((t.toNat : Int) == 3) = false := u8_not (n := 3) (by rw [e]; decide)
  have q7 : ((t.toNat : Int) == 7) = false := u8_not (n := 7) (by rw [e]; decide)
  have q8 : ((t.toNat : Int) == 8) = false := u8_not (n := 8) (by rw [e]; decide)
  have o0 : W.cell? ⟨w.heap.size + 1, 0, none⟩ = some (.int .u8 t.toNat) := HW.out.2.1.c0
  have o1 : W.cell? ⟨w.heap.size + 1, 1, none⟩ = some (.string d) := HW.out.2.1.c1
  have x0 : W.cell? ⟨w.heap.size, 0, none⟩ = some (Value.bool x.hm) := HW.out.1.c 0
  have f0 : W.frozen? ⟨w.heap.size, 0, none⟩ = false := HW.out.1.f 0
  have x1 : W.cell? ⟨w.heap.size, 1, none⟩ = some (.int .u16 x.mru.toNat) := HW.out.1.c 1
  have f1 : W.frozen? ⟨w.heap.size, 1, none⟩ = false := HW.out.1.f 1
  have x2 : W.cell? ⟨w.heap.size, 2, none⟩ = some (.bool x.ha) := HW.out.1.c 2
  have f2 : W.frozen? ⟨w.heap.size, 2, none⟩ = false := HW.out.1.f 2
  have x3 : W.cell? ⟨w.heap.size, 3, none⟩ = some (.int .u32 x.accm.toNat) := HW.out.1.c 3
  have f3 : W.frozen? ⟨w.heap.size, 3, none⟩ = false := HW.out.1.f 3
  have x4 : W.cell? ⟨w.heap.size, 4, none⟩ = some (.int .u8 x.auth.toNat) := HW.out.1.c 4
  have f4 : W.frozen? ⟨w.heap.size, 4, none⟩ = false := HW.out.1.f 4
  have x5 : W.cell? ⟨w.heap.size, 5, none⟩ = some (.bool x.hg) := HW.out.1.c 5
  have f5 : W.frozen? ⟨w.heap.size, 5, none⟩ = false := HW.out.1.f 5
  have x6 : W.cell? ⟨w.heap.size, 6, none⟩ = some (.int .u32 x.magic.toNat) := HW.out.1.c 6
  have f6 : W.frozen? ⟨w.heap.size, 6, none⟩ = false := HW.out.1.f 6
  have x7 : W.cell? ⟨w.heap.size, 7, none⟩ = some (.bool x.pfc) := HW.out.1.c 7
  have f7 : W.frozen? ⟨w.heap.size, 7, none⟩ = false := HW.out.1.f 7
  have x8 : W.cell? ⟨w.heap.size, 8, none⟩ = some (.bool x.acfc) := HW.out.1.c 8
  have f8 : W.frozen? ⟨w.heap.size, 8, none⟩ = false := HW.out.1.f 8
  have hs : d.size = 2 := by rw [e] at hg; exact of_decide_eq_true hg
  have hv : val d.toList < 65536 := by have := val_lt d.toList; rw [← size_toList, hs] at this; omega
  have C1 := Lib.hid (fun W => rvalue_any d W (by omega))
  have HY : Hid (({ x with hm := true, mru := UInt16.ofNat (val d.toList) } : Lcp) = say x (t, d)) := by show _ = _; rw [e]; rfl
  have HC := Lib.hid (u16_cast hv)
  have hv1 : (val d.toList : Int) ≤ 65535 := by omega
  have hv2 : (0 : Int) ≤ (val d.toList : Int) := by omega
  clear hv hs hg e
  generalize val d.toList = n at *
  obtain ⟨V, hV, HV⟩ : ∃ V, (W.setCell ⟨w.heap.size, 0, none⟩ (.bool true)).setCell ⟨w.heap.size, 1, none⟩ (.int .u16 (n : Nat)) = V ∧ Hid (LAt V w.heap.size ({ x with hm := true, mru := UInt16.ofNat n } : Lcp) ∧ LAt V (w.heap.size + 1 + 1) lz ∧ Below w.heap.size w V) :=
    ⟨_, rfl, by have := (Blk.set HW.out.1 0 (.bool true)).set 1 (.int .u16 (n : Nat)); rw [← HC.out] at this ⊢; exact this, Blk.moves HW.out.2.2.1 (((Moves.refl (fun k => k = w.heap.size) W).setCell ⟨w.heap.size, 0, none⟩ (fun _ => rfl) _).setCell ⟨w.heap.size, 1, none⟩ (fun _ => rfl) _) (by omega), HW.out.2.2.2.1.trans ((((Moves.refl (fun k => k = w.heap.size) W).setCell ⟨w.heap.size, 0, none⟩ (fun _ => rfl) _).setCell ⟨w.heap.size, 1, none⟩ (fun _ => rfl) _).below HW.out.2.2.2.1.size (fun k e => by omega))⟩
  have c0 : V.cell? ⟨w.heap.size, 0, none⟩ = some (.bool true) := HV.out.1.c 0
  have c1 : V.cell? ⟨w.heap.size, 1, none⟩ = some (.int .u16 (n : Nat)) := (HV.out.1.c 1).trans (by show some _ = _; rw [← HC.out])
  have c2 : V.cell? ⟨w.heap.size, 2, none⟩ = some (.bool x.ha) := HV.out.1.c 2
  have c3 : V.cell? ⟨w.heap.size, 3, none⟩ = some (.int .u32 x.accm.toNat) := HV.out.1.c 3
  have c4 : V.cell? ⟨w.heap.size, 4, none⟩ = some (.int .u8 x.auth.toNat) := HV.out.1.c 4
  have c5 : V.cell? ⟨w.heap.size, 5, none⟩ = some (.bool x.hg) := HV.out.1.c 5
  have c6 : V.cell? ⟨w.heap.size, 6, none⟩ = some (.int .u32 x.magic.toNat) := HV.out.1.c 6
  have c7 : V.cell? ⟨w.heap.size, 7, none⟩ = some (.bool x.pfc) := HV.out.1.c 7
  have c8 : V.cell? ⟨w.heap.size, 8, none⟩ = some (.bool x.acfc) := HV.out.1.c 8
  have z0 : V.cell? ⟨w.heap.size + 1 + 1, 0, none⟩ = some (Value.bool false) := HV.out.2.1.c 0
  have g0 : V.frozen? ⟨w.heap.size + 1 + 1, 0, none⟩ = false := HV.out.2.1.f 0
  have z1 : V.cell? ⟨w.heap.size + 1 + 1, 1, none⟩ = some (.int .u16 0) := HV.out.2.1.c 1
  have g1 : V.frozen? ⟨w.heap.size + 1 + 1, 1, none⟩ = false := HV.out.2.1.f 1
  have z2 : V.cell? ⟨w.heap.size + 1 + 1, 2, none⟩ = some (.bool false) := HV.out.2.1.c 2
  have g2 : V.frozen? ⟨w.heap.size + 1 + 1, 2, none⟩ = false := HV.out.2.1.f 2
  have z3 : V.cell? ⟨w.heap.size + 1 + 1, 3, none⟩ = some (.int .u32 0) := HV.out.2.1.c 3
  have g3 : V.frozen? ⟨w.heap.size + 1 + 1, 3, none⟩ = false := HV.out.2.1.f 3
  have z4 : V.cell? ⟨w.heap.size + 1 + 1, 4, none⟩ = some (.int .u8 0) := HV.out.2.1.c 4
  have g4 : V.frozen? ⟨w.heap.size + 1 + 1, 4, none⟩ = false := HV.out.2.1.f 4
  have z5 : V.cell? ⟨w.heap.size + 1 + 1, 5, none⟩ = some (.bool false) := HV.out.2.1.c 5
  have g5 : V.frozen? ⟨w.heap.size + 1 + 1, 5, none⟩ = false := HV.out.2.1.f 5
  have z6 : V.cell? ⟨w.heap.size + 1 + 1, 6, none⟩ = some (.int .u32 0) := HV.out.2.1.c 6
  have g6 : V.frozen? ⟨w.heap.size + 1 + 1, 6, none⟩ = false := HV.out.2.1.f 6
  have z7 : V.cell? ⟨w.heap.size + 1 + 1, 7, none⟩ = some (.bool false) := HV.out.2.1.c 7
  have g7 : V.frozen? ⟨w.heap.size + 1 + 1, 7, none⟩ = false := HV.out.2.1.f 7
  have z8 : V.cell? ⟨w.heap.size + 1 + 1, 8, none⟩ = some (.bool false) := HV.out.2.1.c 8
  have g8 : V.frozen? ⟨w.heap.size + 1 + 1, 8, none⟩ = false := HV.out.2.1.f 8
  go_enter Tryz.func55, Tryz.ntmps55
  go_wp2_with fail
  refine (C1.out _).mono ?_
  rintro e w3 ⟨rfl, hw3⟩
  obtain rfl := hw3.symm
  clear hW C1
  go_wp2
  rw [← HC.out]
  have HR := setL_blk (y := ({ x with hm := true, mru := UInt16.ofNat n } : Lcp)) HV.out.2.1
  have HBe := setL_below HV.out.2.2 HV.out.2.2.size (g := w.heap.size + 1 + 1) (by omega) (lv ({ x with hm := true, mru := UInt16.ofNat n } : Lcp))
  (try simp only [Exit.inBlock, Exit.then])
  refine bodyPost_ret (results_cell_row rfl _ _ (w.heap.size + 1 + 1) _ (lv ({ x with hm := true, mru := UInt16.ofNat n } : Lcp)).toArray _ _ rfl HR Tryz.underlying37 rfl (by kernel_rfl)) rfl ?_
  exact ⟨by rw [← HY.out], HBe⟩
set_option maxHeartbeats 2000000 in
theorem rset2 (t : UInt8) (d : ByteArray) (x : Lcp) (w : World) (e : t = 2) (hg : good (t, d) = true) : Calls Tryz.prog 55 #[.agg (lv x).toArray, .agg #[.int .u8 t.toNat, .string d]] w fun e w' => e = .returned (.agg (lv (say x (t, d))).toArray) ∧ Below w.heap.size w w' := by
  show Calls Tryz.prog 55 #[.agg #[Value.bool x.hm, .int .u16 x.mru.toNat, .bool x.ha, .int .u32 x.accm.toNat, .int .u8 x.auth.toNat, .bool x.hg, .int .u32 x.magic.toNat, .bool x.pfc, .bool x.acfc], .agg #[.int .u8 t.toNat, .string d]] w fun e w' => e = .returned (.agg (lv (say x (t, d))).toArray) ∧ Below w.heap.size w w'
  obtain ⟨W, hW, HW⟩ := boxA w x t d
  have q1 : ((t.toNat : Int) == 1) = false := u8_not (n := 1) (by rw [e]; decide)
  have q2 : ((t.toNat : Int) == 2) = true := u8_is (n := 2) (by rw [e]; rfl)
  have q5 : ((t.toNat : Int) == 5) = false := u8_not (n := 5) (by rw [e]; decide)
  have q3 : ((t.toNat : Int) == 3) = false := u8_not (n := 3) (by rw [e]; decide)
  have q7 : ((t.toNat : Int) == 7) = false := u8_not (n := 7) (by rw [e]; decide)
  have q8 : ((t.toNat : Int) == 8) = false := u8_not (n := 8) (by rw [e]; decide)
  have o0 : W.cell? ⟨w.heap.size + 1, 0, none⟩ = some (.int .u8 t.toNat) := HW.out.2.1.c0
  have o1 : W.cell? ⟨w.heap.size + 1, 1, none⟩ = some (.string d) := HW.out.2.1.c1
  have x0 : W.cell? ⟨w.heap.size, 0, none⟩ = some (Value.bool x.hm) := HW.out.1.c 0
  have f0 : W.frozen? ⟨w.heap.size, 0, none⟩ = false := HW.out.1.f 0
  have x1 : W.cell? ⟨w.heap.size, 1, none⟩ = some (.int .u16 x.mru.toNat) := HW.out.1.c 1
  have f1 : W.frozen? ⟨w.heap.size, 1, none⟩ = false := HW.out.1.f 1
  have x2 : W.cell? ⟨w.heap.size, 2, none⟩ = some (.bool x.ha) := HW.out.1.c 2
  have f2 : W.frozen? ⟨w.heap.size, 2, none⟩ = false := HW.out.1.f 2
  have x3 : W.cell? ⟨w.heap.size, 3, none⟩ = some (.int .u32 x.accm.toNat) := HW.out.1.c 3
  have f3 : W.frozen? ⟨w.heap.size, 3, none⟩ = false := HW.out.1.f 3
  have x4 : W.cell? ⟨w.heap.size, 4, none⟩ = some (.int .u8 x.auth.toNat) := HW.out.1.c 4
  have f4 : W.frozen? ⟨w.heap.size, 4, none⟩ = false := HW.out.1.f 4
  have x5 : W.cell? ⟨w.heap.size, 5, none⟩ = some (.bool x.hg) := HW.out.1.c 5
  have f5 : W.frozen? ⟨w.heap.size, 5, none⟩ = false := HW.out.1.f 5
  have x6 : W.cell? ⟨w.heap.size, 6, none⟩ = some (.int .u32 x.magic.toNat) := HW.out.1.c 6
  have f6 : W.frozen? ⟨w.heap.size, 6, none⟩ = false := HW.out.1.f 6
  have x7 : W.cell? ⟨w.heap.size, 7, none⟩ = some (.bool x.pfc) := HW.out.1.c 7
  have f7 : W.frozen? ⟨w.heap.size, 7, none⟩ = false := HW.out.1.f 7
  have x8 : W.cell? ⟨w.heap.size, 8, none⟩ = some (.bool x.acfc) := HW.out.1.c 8
  have f8 : W.frozen? ⟨w.heap.size, 8, none⟩ = false := HW.out.1.f 8
  have hs : d.size = 4 := by rw [e] at hg; exact of_decide_eq_true hg
  have hv : val d.toList < 4294967296 := by have := val_lt d.toList; rw [← size_toList, hs] at this; omega
  have C1 := Lib.hid (fun W => rvalue_any d W (by omega))
  have HY : Hid (({ x with ha := true, accm := UInt32.ofNat (val d.toList) } : Lcp) = say x (t, d)) := by show _ = _; rw [e]; rfl
  have HC := Lib.hid (u32_cast hv)
  have hv1 : (val d.toList : Int) ≤ 4294967295 := by omega
  have hv2 : (0 : Int) ≤ (val d.toList : Int) := by omega
  clear hv hs hg e
  generalize val d.toList = n at *
  obtain ⟨V, hV, HV⟩ : ∃ V, (W.setCell ⟨w.heap.size, 2, none⟩ (.bool true)).setCell ⟨w.heap.size, 3, none⟩ (.int .u32 (n : Nat)) = V ∧ Hid (LAt V w.heap.size ({ x with ha := true, accm := UInt32.ofNat n } : Lcp) ∧ LAt V (w.heap.size + 1 + 1) lz ∧ Below w.heap.size w V) :=
    ⟨_, rfl, by have := (Blk.set HW.out.1 2 (.bool true)).set 3 (.int .u32 (n : Nat)); rw [← HC.out] at this ⊢; exact this, Blk.moves HW.out.2.2.1 (((Moves.refl (fun k => k = w.heap.size) W).setCell ⟨w.heap.size, 2, none⟩ (fun _ => rfl) _).setCell ⟨w.heap.size, 3, none⟩ (fun _ => rfl) _) (by omega), HW.out.2.2.2.1.trans ((((Moves.refl (fun k => k = w.heap.size) W).setCell ⟨w.heap.size, 2, none⟩ (fun _ => rfl) _).setCell ⟨w.heap.size, 3, none⟩ (fun _ => rfl) _).below HW.out.2.2.2.1.size (fun k e => by omega))⟩
  have c0 : V.cell? ⟨w.heap.size, 0, none⟩ = some (Value.bool x.hm) := HV.out.1.c 0
  have c1 : V.cell? ⟨w.heap.size, 1, none⟩ = some (.int .u16 x.mru.toNat) := HV.out.1.c 1
  have c2 : V.cell? ⟨w.heap.size, 2, none⟩ = some (.bool true) := HV.out.1.c 2
  have c3 : V.cell? ⟨w.heap.size, 3, none⟩ = some (.int .u32 (n : Nat)) := (HV.out.1.c 3).trans (by show some _ = _; rw [← HC.out])
  have c4 : V.cell? ⟨w.heap.size, 4, none⟩ = some (.int .u8 x.auth.toNat) := HV.out.1.c 4
  have c5 : V.cell? ⟨w.heap.size, 5, none⟩ = some (.bool x.hg) := HV.out.1.c 5
  have c6 : V.cell? ⟨w.heap.size, 6, none⟩ = some (.int .u32 x.magic.toNat) := HV.out.1.c 6
  have c7 : V.cell? ⟨w.heap.size, 7, none⟩ = some (.bool x.pfc) := HV.out.1.c 7
  have c8 : V.cell? ⟨w.heap.size, 8, none⟩ = some (.bool x.acfc) := HV.out.1.c 8
  have z0 : V.cell? ⟨w.heap.size + 1 + 1, 0, none⟩ = some (Value.bool false) := HV.out.2.1.c 0
  have g0 : V.frozen? ⟨w.heap.size + 1 + 1, 0, none⟩ = false := HV.out.2.1.f 0
  have z1 : V.cell? ⟨w.heap.size + 1 + 1, 1, none⟩ = some (.int .u16 0) := HV.out.2.1.c 1
  have g1 : V.frozen? ⟨w.heap.size + 1 + 1, 1, none⟩ = false := HV.out.2.1.f 1
  have z2 : V.cell? ⟨w.heap.size + 1 + 1, 2, none⟩ = some (.bool false) := HV.out.2.1.c 2
  have g2 : V.frozen? ⟨w.heap.size + 1 + 1, 2, none⟩ = false := HV.out.2.1.f 2
  have z3 : V.cell? ⟨w.heap.size + 1 + 1, 3, none⟩ = some (.int .u32 0) := HV.out.2.1.c 3
  have g3 : V.frozen? ⟨w.heap.size + 1 + 1, 3, none⟩ = false := HV.out.2.1.f 3
  have z4 : V.cell? ⟨w.heap.size + 1 + 1, 4, none⟩ = some (.int .u8 0) := HV.out.2.1.c 4
  have g4 : V.frozen? ⟨w.heap.size + 1 + 1, 4, none⟩ = false := HV.out.2.1.f 4
  have z5 : V.cell? ⟨w.heap.size + 1 + 1, 5, none⟩ = some (.bool false) := HV.out.2.1.c 5
  have g5 : V.frozen? ⟨w.heap.size + 1 + 1, 5, none⟩ = false := HV.out.2.1.f 5
  have z6 : V.cell? ⟨w.heap.size + 1 + 1, 6, none⟩ = some (.int .u32 0) := HV.out.2.1.c 6
  have g6 : V.frozen? ⟨w.heap.size + 1 + 1, 6, none⟩ = false := HV.out.2.1.f 6
  have z7 : V.cell? ⟨w.heap.size + 1 + 1, 7, none⟩ = some (.bool false) := HV.out.2.1.c 7
  have g7 : V.frozen? ⟨w.heap.size + 1 + 1, 7, none⟩ = false := HV.out.2.1.f 7
  have z8 : V.cell? ⟨w.heap.size + 1 + 1, 8, none⟩ = some (.bool false) := HV.out.2.1.c 8
  have g8 : V.frozen? ⟨w.heap.size + 1 + 1, 8, none⟩ = false := HV.out.2.1.f 8
  go_enter Tryz.func55, Tryz.ntmps55
  go_wp2_with fail
  refine (C1.out _).mono ?_
  rintro e w3 ⟨rfl, hw3⟩
  obtain rfl := hw3.symm
  clear hW C1
  go_wp2
  rw [← HC.out]
  have HR := setL_blk (y := ({ x with ha := true, accm := UInt32.ofNat n } : Lcp)) HV.out.2.1
  have HBe := setL_below HV.out.2.2 HV.out.2.2.size (g := w.heap.size + 1 + 1) (by omega) (lv ({ x with ha := true, accm := UInt32.ofNat n } : Lcp))
  (try simp only [Exit.inBlock, Exit.then])
  refine bodyPost_ret (results_cell_row rfl _ _ (w.heap.size + 1 + 1) _ (lv ({ x with ha := true, accm := UInt32.ofNat n } : Lcp)).toArray _ _ rfl HR Tryz.underlying37 rfl (by kernel_rfl)) rfl ?_
  exact ⟨by rw [← HY.out], HBe⟩
set_option maxHeartbeats 2000000 in
theorem rset3 (t : UInt8) (d : ByteArray) (x : Lcp) (w : World) (e : t = 3) (hg : good (t, d) = true) : Calls Tryz.prog 55 #[.agg (lv x).toArray, .agg #[.int .u8 t.toNat, .string d]] w fun e w' => e = .returned (.agg (lv (say x (t, d))).toArray) ∧ Below w.heap.size w w' := by
  show Calls Tryz.prog 55 #[.agg #[Value.bool x.hm, .int .u16 x.mru.toNat, .bool x.ha, .int .u32 x.accm.toNat, .int .u8 x.auth.toNat, .bool x.hg, .int .u32 x.magic.toNat, .bool x.pfc, .bool x.acfc], .agg #[.int .u8 t.toNat, .string d]] w fun e w' => e = .returned (.agg (lv (say x (t, d))).toArray) ∧ Below w.heap.size w w'
  obtain ⟨W, hW, HW⟩ := boxA w x t d
  have q1 : ((t.toNat : Int) == 1) = false := u8_not (n := 1) (by rw [e]; decide)
  have q2 : ((t.toNat : Int) == 2) = false := u8_not (n := 2) (by rw [e]; decide)
  have q5 : ((t.toNat : Int) == 5) = false := u8_not (n := 5) (by rw [e]; decide)
  have q3 : ((t.toNat : Int) == 3) = true := u8_is (n := 3) (by rw [e]; rfl)
  have q7 : ((t.toNat : Int) == 7) = false := u8_not (n := 7) (by rw [e]; decide)
  have q8 : ((t.toNat : Int) == 8) = false := u8_not (n := 8) (by rw [e]; decide)
  have o0 : W.cell? ⟨w.heap.size + 1, 0, none⟩ = some (.int .u8 t.toNat) := HW.out.2.1.c0
  have o1 : W.cell? ⟨w.heap.size + 1, 1, none⟩ = some (.string d) := HW.out.2.1.c1
  have x0 : W.cell? ⟨w.heap.size, 0, none⟩ = some (Value.bool x.hm) := HW.out.1.c 0
  have f0 : W.frozen? ⟨w.heap.size, 0, none⟩ = false := HW.out.1.f 0
  have x1 : W.cell? ⟨w.heap.size, 1, none⟩ = some (.int .u16 x.mru.toNat) := HW.out.1.c 1
  have f1 : W.frozen? ⟨w.heap.size, 1, none⟩ = false := HW.out.1.f 1
  have x2 : W.cell? ⟨w.heap.size, 2, none⟩ = some (.bool x.ha) := HW.out.1.c 2
  have f2 : W.frozen? ⟨w.heap.size, 2, none⟩ = false := HW.out.1.f 2
  have x3 : W.cell? ⟨w.heap.size, 3, none⟩ = some (.int .u32 x.accm.toNat) := HW.out.1.c 3
  have f3 : W.frozen? ⟨w.heap.size, 3, none⟩ = false := HW.out.1.f 3
  have x4 : W.cell? ⟨w.heap.size, 4, none⟩ = some (.int .u8 x.auth.toNat) := HW.out.1.c 4
  have f4 : W.frozen? ⟨w.heap.size, 4, none⟩ = false := HW.out.1.f 4
  have x5 : W.cell? ⟨w.heap.size, 5, none⟩ = some (.bool x.hg) := HW.out.1.c 5
  have f5 : W.frozen? ⟨w.heap.size, 5, none⟩ = false := HW.out.1.f 5
  have x6 : W.cell? ⟨w.heap.size, 6, none⟩ = some (.int .u32 x.magic.toNat) := HW.out.1.c 6
  have f6 : W.frozen? ⟨w.heap.size, 6, none⟩ = false := HW.out.1.f 6
  have x7 : W.cell? ⟨w.heap.size, 7, none⟩ = some (.bool x.pfc) := HW.out.1.c 7
  have f7 : W.frozen? ⟨w.heap.size, 7, none⟩ = false := HW.out.1.f 7
  have x8 : W.cell? ⟨w.heap.size, 8, none⟩ = some (.bool x.acfc) := HW.out.1.c 8
  have f8 : W.frozen? ⟨w.heap.size, 8, none⟩ = false := HW.out.1.f 8
  have HK : Hid (authK d = 1 ∧ d.size = 2 ∨ authK d = 2 ∧ d.size = 3) := by
    show _ ∨ _
    have h0 : authK d ≠ 0 := by rw [e] at hg; exact (by simpa [good] using hg)
    by_cases h1 : d = bOf [192, 35]
    · exact .inl ⟨authK_1 h1, by rw [h1]; rfl⟩
    · by_cases h2 : d = bOf [194, 35, 5]
      · exact .inr ⟨authK_2 h1 h2, by rw [h2]; rfl⟩
      · exact absurd (authK_0 h1 h2) h0
  have HY : Hid (({ x with auth := authK d } : Lcp) = say x (t, d)) := by show _ = _; rw [e]; rfl
  clear e hg
  rcases HK.out with ⟨h1, h2⟩ | ⟨h1, h2⟩
  · have p3 : ((d.size : Int) == 3) = false := by rw [h2]; rfl
    rw [h1] at HY
    clear h1 h2 HK
    obtain ⟨V, hV, HV⟩ : ∃ V, W.setCell ⟨w.heap.size, 4, none⟩ (.int .u8 1) = V ∧ Hid (LAt V w.heap.size ({ x with auth := 1 } : Lcp) ∧ LAt V (w.heap.size + 1 + 1) lz ∧ Below w.heap.size w V) :=
      ⟨_, rfl, Blk.set HW.out.1 4 _, Blk.moves HW.out.2.2.1 ((Moves.refl (fun k => k = w.heap.size) W).setCell ⟨w.heap.size, 4, none⟩ (fun _ => rfl) _) (by omega), HW.out.2.2.2.1.trans (((Moves.refl (fun k => k = w.heap.size) W).setCell ⟨w.heap.size, 4, none⟩ (fun _ => rfl) _).below HW.out.2.2.2.1.size (fun k e => by omega))⟩
    have c0 : V.cell? ⟨w.heap.size, 0, none⟩ = some (Value.bool x.hm) := HV.out.1.c 0
    have c1 : V.cell? ⟨w.heap.size, 1, none⟩ = some (.int .u16 x.mru.toNat) := HV.out.1.c 1
    have c2 : V.cell? ⟨w.heap.size, 2, none⟩ = some (.bool x.ha) := HV.out.1.c 2
    have c3 : V.cell? ⟨w.heap.size, 3, none⟩ = some (.int .u32 x.accm.toNat) := HV.out.1.c 3
    have c4 : V.cell? ⟨w.heap.size, 4, none⟩ = some (.int .u8 1) := HV.out.1.c 4
    have c5 : V.cell? ⟨w.heap.size, 5, none⟩ = some (.bool x.hg) := HV.out.1.c 5
    have c6 : V.cell? ⟨w.heap.size, 6, none⟩ = some (.int .u32 x.magic.toNat) := HV.out.1.c 6
    have c7 : V.cell? ⟨w.heap.size, 7, none⟩ = some (.bool x.pfc) := HV.out.1.c 7
    have c8 : V.cell? ⟨w.heap.size, 8, none⟩ = some (.bool x.acfc) := HV.out.1.c 8
    have z0 : V.cell? ⟨w.heap.size + 1 + 1, 0, none⟩ = some (Value.bool false) := HV.out.2.1.c 0
    have g0 : V.frozen? ⟨w.heap.size + 1 + 1, 0, none⟩ = false := HV.out.2.1.f 0
    have z1 : V.cell? ⟨w.heap.size + 1 + 1, 1, none⟩ = some (.int .u16 0) := HV.out.2.1.c 1
    have g1 : V.frozen? ⟨w.heap.size + 1 + 1, 1, none⟩ = false := HV.out.2.1.f 1
    have z2 : V.cell? ⟨w.heap.size + 1 + 1, 2, none⟩ = some (.bool false) := HV.out.2.1.c 2
    have g2 : V.frozen? ⟨w.heap.size + 1 + 1, 2, none⟩ = false := HV.out.2.1.f 2
    have z3 : V.cell? ⟨w.heap.size + 1 + 1, 3, none⟩ = some (.int .u32 0) := HV.out.2.1.c 3
    have g3 : V.frozen? ⟨w.heap.size + 1 + 1, 3, none⟩ = false := HV.out.2.1.f 3
    have z4 : V.cell? ⟨w.heap.size + 1 + 1, 4, none⟩ = some (.int .u8 0) := HV.out.2.1.c 4
    have g4 : V.frozen? ⟨w.heap.size + 1 + 1, 4, none⟩ = false := HV.out.2.1.f 4
    have z5 : V.cell? ⟨w.heap.size + 1 + 1, 5, none⟩ = some (.bool false) := HV.out.2.1.c 5
    have g5 : V.frozen? ⟨w.heap.size + 1 + 1, 5, none⟩ = false := HV.out.2.1.f 5
    have z6 : V.cell? ⟨w.heap.size + 1 + 1, 6, none⟩ = some (.int .u32 0) := HV.out.2.1.c 6
    have g6 : V.frozen? ⟨w.heap.size + 1 + 1, 6, none⟩ = false := HV.out.2.1.f 6
    have z7 : V.cell? ⟨w.heap.size + 1 + 1, 7, none⟩ = some (.bool false) := HV.out.2.1.c 7
    have g7 : V.frozen? ⟨w.heap.size + 1 + 1, 7, none⟩ = false := HV.out.2.1.f 7
    have z8 : V.cell? ⟨w.heap.size + 1 + 1, 8, none⟩ = some (.bool false) := HV.out.2.1.c 8
    have g8 : V.frozen? ⟨w.heap.size + 1 + 1, 8, none⟩ = false := HV.out.2.1.f 8
    have ov : V.cell? ⟨w.heap.size + 1, 1, none⟩ = some (.string d) := by rw [← hV]; exact (At.c1 (Blk.moves HW.out.2.1 ((Moves.refl (fun k => k = w.heap.size) W).setCell ⟨w.heap.size, 4, none⟩ (fun _ => rfl) _) (by omega)))
    go_enter Tryz.func55, Tryz.ntmps55
    go_wp2
    clear hW
    have HR := setL_blk (y := ({ x with auth := 1 } : Lcp)) HV.out.2.1
    have HBe := setL_below HV.out.2.2 HV.out.2.2.size (g := w.heap.size + 1 + 1) (by omega) (lv ({ x with auth := 1 } : Lcp))
    (try simp only [Exit.inBlock, Exit.then])
    refine bodyPost_ret (results_cell_row rfl _ _ (w.heap.size + 1 + 1) _ (lv ({ x with auth := 1 } : Lcp)).toArray _ _ rfl HR Tryz.underlying37 rfl (by kernel_rfl)) rfl ?_
    exact ⟨by rw [← HY.out], HBe⟩
  · have p3 : ((d.size : Int) == 3) = true := by rw [h2]; rfl
    rw [h1] at HY
    clear h1 h2 HK
    obtain ⟨V, hV, HV⟩ : ∃ V, (W.setCell ⟨w.heap.size, 4, none⟩ (.int .u8 1)).setCell ⟨w.heap.size, 4, none⟩ (.int .u8 2) = V ∧ Hid (LAt V w.heap.size ({ x with auth := 2 } : Lcp) ∧ LAt V (w.heap.size + 1 + 1) lz ∧ Below w.heap.size w V) :=
      ⟨_, rfl, (Blk.set HW.out.1 4 (.int .u8 1)).set 4 _, Blk.moves HW.out.2.2.1 (((Moves.refl (fun k => k = w.heap.size) W).setCell ⟨w.heap.size, 4, none⟩ (fun _ => rfl) _).setCell ⟨w.heap.size, 4, none⟩ (fun _ => rfl) _) (by omega), HW.out.2.2.2.1.trans ((((Moves.refl (fun k => k = w.heap.size) W).setCell ⟨w.heap.size, 4, none⟩ (fun _ => rfl) _).setCell ⟨w.heap.size, 4, none⟩ (fun _ => rfl) _).below HW.out.2.2.2.1.size (fun k e => by omega))⟩
    have c0 : V.cell? ⟨w.heap.size, 0, none⟩ = some (Value.bool x.hm) := HV.out.1.c 0
    have c1 : V.cell? ⟨w.heap.size, 1, none⟩ = some (.int .u16 x.mru.toNat) := HV.out.1.c 1
    have c2 : V.cell? ⟨w.heap.size, 2, none⟩ = some (.bool x.ha) := HV.out.1.c 2
    have c3 : V.cell? ⟨w.heap.size, 3, none⟩ = some (.int .u32 x.accm.toNat) := HV.out.1.c 3
    have c4 : V.cell? ⟨w.heap.size, 4, none⟩ = some (.int .u8 2) := HV.out.1.c 4
    have c5 : V.cell? ⟨w.heap.size, 5, none⟩ = some (.bool x.hg) := HV.out.1.c 5
    have c6 : V.cell? ⟨w.heap.size, 6, none⟩ = some (.int .u32 x.magic.toNat) := HV.out.1.c 6
    have c7 : V.cell? ⟨w.heap.size, 7, none⟩ = some (.bool x.pfc) := HV.out.1.c 7
    have c8 : V.cell? ⟨w.heap.size, 8, none⟩ = some (.bool x.acfc) := HV.out.1.c 8
    have z0 : V.cell? ⟨w.heap.size + 1 + 1, 0, none⟩ = some (Value.bool false) := HV.out.2.1.c 0
    have g0 : V.frozen? ⟨w.heap.size + 1 + 1, 0, none⟩ = false := HV.out.2.1.f 0
    have z1 : V.cell? ⟨w.heap.size + 1 + 1, 1, none⟩ = some (.int .u16 0) := HV.out.2.1.c 1
    have g1 : V.frozen? ⟨w.heap.size + 1 + 1, 1, none⟩ = false := HV.out.2.1.f 1
    have z2 : V.cell? ⟨w.heap.size + 1 + 1, 2, none⟩ = some (.bool false) := HV.out.2.1.c 2
    have g2 : V.frozen? ⟨w.heap.size + 1 + 1, 2, none⟩ = false := HV.out.2.1.f 2
    have z3 : V.cell? ⟨w.heap.size + 1 + 1, 3, none⟩ = some (.int .u32 0) := HV.out.2.1.c 3
    have g3 : V.frozen? ⟨w.heap.size + 1 + 1, 3, none⟩ = false := HV.out.2.1.f 3
    have z4 : V.cell? ⟨w.heap.size + 1 + 1, 4, none⟩ = some (.int .u8 0) := HV.out.2.1.c 4
    have g4 : V.frozen? ⟨w.heap.size + 1 + 1, 4, none⟩ = false := HV.out.2.1.f 4
    have z5 : V.cell? ⟨w.heap.size + 1 + 1, 5, none⟩ = some (.bool false) := HV.out.2.1.c 5
    have g5 : V.frozen? ⟨w.heap.size + 1 + 1, 5, none⟩ = false := HV.out.2.1.f 5
    have z6 : V.cell? ⟨w.heap.size + 1 + 1, 6, none⟩ = some (.int .u32 0) := HV.out.2.1.c 6
    have g6 : V.frozen? ⟨w.heap.size + 1 + 1, 6, none⟩ = false := HV.out.2.1.f 6
    have z7 : V.cell? ⟨w.heap.size + 1 + 1, 7, none⟩ = some (.bool false) := HV.out.2.1.c 7
    have g7 : V.frozen? ⟨w.heap.size + 1 + 1, 7, none⟩ = false := HV.out.2.1.f 7
    have z8 : V.cell? ⟨w.heap.size + 1 + 1, 8, none⟩ = some (.bool false) := HV.out.2.1.c 8
    have g8 : V.frozen? ⟨w.heap.size + 1 + 1, 8, none⟩ = false := HV.out.2.1.f 8
    go_enter Tryz.func55, Tryz.ntmps55
    go_wp2
    clear hW
    have HR := setL_blk (y := ({ x with auth := 2 } : Lcp)) HV.out.2.1
    have HBe := setL_below HV.out.2.2 HV.out.2.2.size (g := w.heap.size + 1 + 1) (by omega) (lv ({ x with auth := 2 } : Lcp))
    (try simp only [Exit.inBlock, Exit.then])
    refine bodyPost_ret (results_cell_row rfl _ _ (w.heap.size + 1 + 1) _ (lv ({ x with auth := 2 } : Lcp)).toArray _ _ rfl HR Tryz.underlying37 rfl (by kernel_rfl)) rfl ?_
    exact ⟨by rw [← HY.out], HBe⟩
set_option maxHeartbeats 2000000 in
theorem rset5 (t : UInt8) (d : ByteArray) (x : Lcp) (w : World) (e : t = 5) (hg : good (t, d) = true) : Calls Tryz.prog 55 #[.agg (lv x).toArray, .agg #[.int .u8 t.toNat, .string d]] w fun e w' => e = .returned (.agg (lv (say x (t, d))).toArray) ∧ Below w.heap.size w w' := by
  show Calls Tryz.prog 55 #[.agg #[Value.bool x.hm, .int .u16 x.mru.toNat, .bool x.ha, .int .u32 x.accm.toNat, .int .u8 x.auth.toNat, .bool x.hg, .int .u32 x.magic.toNat, .bool x.pfc, .bool x.acfc], .agg #[.int .u8 t.toNat, .string d]] w fun e w' => e = .returned (.agg (lv (say x (t, d))).toArray) ∧ Below w.heap.size w w'
  obtain ⟨W, hW, HW⟩ := boxA w x t d
  have q1 : ((t.toNat : Int) == 1) = false := u8_not (n := 1) (by rw [e]; decide)
  have q2 : ((t.toNat : Int) == 2) = false := u8_not (n := 2) (by rw [e]; decide)
  have q5 : ((t.toNat : Int) == 5) = true := u8_is (n := 5) (by rw [e]; rfl)
  have q3 : ((t.toNat : Int) == 3) = false := u8_not (n := 3) (by rw [e]; decide)
  have q7 : ((t.toNat : Int) == 7) = false := u8_not (n := 7) (by rw [e]; decide)
  have q8 : ((t.toNat : Int) == 8) = false := u8_not (n := 8) (by rw [e]; decide)
  have o0 : W.cell? ⟨w.heap.size + 1, 0, none⟩ = some (.int .u8 t.toNat) := HW.out.2.1.c0
  have o1 : W.cell? ⟨w.heap.size + 1, 1, none⟩ = some (.string d) := HW.out.2.1.c1
  have x0 : W.cell? ⟨w.heap.size, 0, none⟩ = some (Value.bool x.hm) := HW.out.1.c 0
  have f0 : W.frozen? ⟨w.heap.size, 0, none⟩ = false := HW.out.1.f 0
  have x1 : W.cell? ⟨w.heap.size, 1, none⟩ = some (.int .u16 x.mru.toNat) := HW.out.1.c 1
  have f1 : W.frozen? ⟨w.heap.size, 1, none⟩ = false := HW.out.1.f 1
  have x2 : W.cell? ⟨w.heap.size, 2, none⟩ = some (.bool x.ha) := HW.out.1.c 2
  have f2 : W.frozen? ⟨w.heap.size, 2, none⟩ = false := HW.out.1.f 2
  have x3 : W.cell? ⟨w.heap.size, 3, none⟩ = some (.int .u32 x.accm.toNat) := HW.out.1.c 3
  have f3 : W.frozen? ⟨w.heap.size, 3, none⟩ = false := HW.out.1.f 3
  have x4 : W.cell? ⟨w.heap.size, 4, none⟩ = some (.int .u8 x.auth.toNat) := HW.out.1.c 4
  have f4 : W.frozen? ⟨w.heap.size, 4, none⟩ = false := HW.out.1.f 4
  have x5 : W.cell? ⟨w.heap.size, 5, none⟩ = some (.bool x.hg) := HW.out.1.c 5
  have f5 : W.frozen? ⟨w.heap.size, 5, none⟩ = false := HW.out.1.f 5
  have x6 : W.cell? ⟨w.heap.size, 6, none⟩ = some (.int .u32 x.magic.toNat) := HW.out.1.c 6
  have f6 : W.frozen? ⟨w.heap.size, 6, none⟩ = false := HW.out.1.f 6
  have x7 : W.cell? ⟨w.heap.size, 7, none⟩ = some (.bool x.pfc) := HW.out.1.c 7
  have f7 : W.frozen? ⟨w.heap.size, 7, none⟩ = false := HW.out.1.f 7
  have x8 : W.cell? ⟨w.heap.size, 8, none⟩ = some (.bool x.acfc) := HW.out.1.c 8
  have f8 : W.frozen? ⟨w.heap.size, 8, none⟩ = false := HW.out.1.f 8
  have hs : d.size = 4 := by rw [e] at hg; exact of_decide_eq_true hg
  have hv : val d.toList < 4294967296 := by have := val_lt d.toList; rw [← size_toList, hs] at this; omega
  have C1 := Lib.hid (fun W => rvalue_any d W (by omega))
  have HY : Hid (({ x with hg := true, magic := UInt32.ofNat (val d.toList) } : Lcp) = say x (t, d)) := by show _ = _; rw [e]; rfl
  have HC := Lib.hid (u32_cast hv)
  have hv1 : (val d.toList : Int) ≤ 4294967295 := by omega
  have hv2 : (0 : Int) ≤ (val d.toList : Int) := by omega
  clear hv hs hg e
  generalize val d.toList = n at *
  obtain ⟨V, hV, HV⟩ : ∃ V, (W.setCell ⟨w.heap.size, 5, none⟩ (.bool true)).setCell ⟨w.heap.size, 6, none⟩ (.int .u32 (n : Nat)) = V ∧ Hid (LAt V w.heap.size ({ x with hg := true, magic := UInt32.ofNat n } : Lcp) ∧ LAt V (w.heap.size + 1 + 1) lz ∧ Below w.heap.size w V) :=
    ⟨_, rfl, by have := (Blk.set HW.out.1 5 (.bool true)).set 6 (.int .u32 (n : Nat)); rw [← HC.out] at this ⊢; exact this, Blk.moves HW.out.2.2.1 (((Moves.refl (fun k => k = w.heap.size) W).setCell ⟨w.heap.size, 5, none⟩ (fun _ => rfl) _).setCell ⟨w.heap.size, 6, none⟩ (fun _ => rfl) _) (by omega), HW.out.2.2.2.1.trans ((((Moves.refl (fun k => k = w.heap.size) W).setCell ⟨w.heap.size, 5, none⟩ (fun _ => rfl) _).setCell ⟨w.heap.size, 6, none⟩ (fun _ => rfl) _).below HW.out.2.2.2.1.size (fun k e => by omega))⟩
  have c0 : V.cell? ⟨w.heap.size, 0, none⟩ = some (Value.bool x.hm) := HV.out.1.c 0
  have c1 : V.cell? ⟨w.heap.size, 1, none⟩ = some (.int .u16 x.mru.toNat) := HV.out.1.c 1
  have c2 : V.cell? ⟨w.heap.size, 2, none⟩ = some (.bool x.ha) := HV.out.1.c 2
  have c3 : V.cell? ⟨w.heap.size, 3, none⟩ = some (.int .u32 x.accm.toNat) := HV.out.1.c 3
  have c4 : V.cell? ⟨w.heap.size, 4, none⟩ = some (.int .u8 x.auth.toNat) := HV.out.1.c 4
  have c5 : V.cell? ⟨w.heap.size, 5, none⟩ = some (.bool true) := HV.out.1.c 5
  have c6 : V.cell? ⟨w.heap.size, 6, none⟩ = some (.int .u32 (n : Nat)) := (HV.out.1.c 6).trans (by show some _ = _; rw [← HC.out])
  have c7 : V.cell? ⟨w.heap.size, 7, none⟩ = some (.bool x.pfc) := HV.out.1.c 7
  have c8 : V.cell? ⟨w.heap.size, 8, none⟩ = some (.bool x.acfc) := HV.out.1.c 8
  have z0 : V.cell? ⟨w.heap.size + 1 + 1, 0, none⟩ = some (Value.bool false) := HV.out.2.1.c 0
  have g0 : V.frozen? ⟨w.heap.size + 1 + 1, 0, none⟩ = false := HV.out.2.1.f 0
  have z1 : V.cell? ⟨w.heap.size + 1 + 1, 1, none⟩ = some (.int .u16 0) := HV.out.2.1.c 1
  have g1 : V.frozen? ⟨w.heap.size + 1 + 1, 1, none⟩ = false := HV.out.2.1.f 1
  have z2 : V.cell? ⟨w.heap.size + 1 + 1, 2, none⟩ = some (.bool false) := HV.out.2.1.c 2
  have g2 : V.frozen? ⟨w.heap.size + 1 + 1, 2, none⟩ = false := HV.out.2.1.f 2
  have z3 : V.cell? ⟨w.heap.size + 1 + 1, 3, none⟩ = some (.int .u32 0) := HV.out.2.1.c 3
  have g3 : V.frozen? ⟨w.heap.size + 1 + 1, 3, none⟩ = false := HV.out.2.1.f 3
  have z4 : V.cell? ⟨w.heap.size + 1 + 1, 4, none⟩ = some (.int .u8 0) := HV.out.2.1.c 4
  have g4 : V.frozen? ⟨w.heap.size + 1 + 1, 4, none⟩ = false := HV.out.2.1.f 4
  have z5 : V.cell? ⟨w.heap.size + 1 + 1, 5, none⟩ = some (.bool false) := HV.out.2.1.c 5
  have g5 : V.frozen? ⟨w.heap.size + 1 + 1, 5, none⟩ = false := HV.out.2.1.f 5
  have z6 : V.cell? ⟨w.heap.size + 1 + 1, 6, none⟩ = some (.int .u32 0) := HV.out.2.1.c 6
  have g6 : V.frozen? ⟨w.heap.size + 1 + 1, 6, none⟩ = false := HV.out.2.1.f 6
  have z7 : V.cell? ⟨w.heap.size + 1 + 1, 7, none⟩ = some (.bool false) := HV.out.2.1.c 7
  have g7 : V.frozen? ⟨w.heap.size + 1 + 1, 7, none⟩ = false := HV.out.2.1.f 7
  have z8 : V.cell? ⟨w.heap.size + 1 + 1, 8, none⟩ = some (.bool false) := HV.out.2.1.c 8
  have g8 : V.frozen? ⟨w.heap.size + 1 + 1, 8, none⟩ = false := HV.out.2.1.f 8
  go_enter Tryz.func55, Tryz.ntmps55
  go_wp2_with fail
  refine (C1.out _).mono ?_
  rintro e w3 ⟨rfl, hw3⟩
  obtain rfl := hw3.symm
  clear hW C1
  go_wp2
  rw [← HC.out]
  have HR := setL_blk (y := ({ x with hg := true, magic := UInt32.ofNat n } : Lcp)) HV.out.2.1
  have HBe := setL_below HV.out.2.2 HV.out.2.2.size (g := w.heap.size + 1 + 1) (by omega) (lv ({ x with hg := true, magic := UInt32.ofNat n } : Lcp))
  (try simp only [Exit.inBlock, Exit.then])
  refine bodyPost_ret (results_cell_row rfl _ _ (w.heap.size + 1 + 1) _ (lv ({ x with hg := true, magic := UInt32.ofNat n } : Lcp)).toArray _ _ rfl HR Tryz.underlying37 rfl (by kernel_rfl)) rfl ?_
  exact ⟨by rw [← HY.out], HBe⟩
set_option maxHeartbeats 2000000 in
theorem rset7 (t : UInt8) (d : ByteArray) (x : Lcp) (w : World) (e : t = 7) (hg : good (t, d) = true) : Calls Tryz.prog 55 #[.agg (lv x).toArray, .agg #[.int .u8 t.toNat, .string d]] w fun e w' => e = .returned (.agg (lv (say x (t, d))).toArray) ∧ Below w.heap.size w w' := by
  show Calls Tryz.prog 55 #[.agg #[Value.bool x.hm, .int .u16 x.mru.toNat, .bool x.ha, .int .u32 x.accm.toNat, .int .u8 x.auth.toNat, .bool x.hg, .int .u32 x.magic.toNat, .bool x.pfc, .bool x.acfc], .agg #[.int .u8 t.toNat, .string d]] w fun e w' => e = .returned (.agg (lv (say x (t, d))).toArray) ∧ Below w.heap.size w w'
  obtain ⟨W, hW, HW⟩ := boxA w x t d
  have q1 : ((t.toNat : Int) == 1) = false := u8_not (n := 1) (by rw [e]; decide)
  have q2 : ((t.toNat : Int) == 2) = false := u8_not (n := 2) (by rw [e]; decide)
  have q5 : ((t.toNat : Int) == 5) = false := u8_not (n := 5) (by rw [e]; decide)
  have q3 : ((t.toNat : Int) == 3) = false := u8_not (n := 3) (by rw [e]; decide)
  have q7 : ((t.toNat : Int) == 7) = true := u8_is (n := 7) (by rw [e]; rfl)
  have q8 : ((t.toNat : Int) == 8) = false := u8_not (n := 8) (by rw [e]; decide)
  have o0 : W.cell? ⟨w.heap.size + 1, 0, none⟩ = some (.int .u8 t.toNat) := HW.out.2.1.c0
  have o1 : W.cell? ⟨w.heap.size + 1, 1, none⟩ = some (.string d) := HW.out.2.1.c1
  have x0 : W.cell? ⟨w.heap.size, 0, none⟩ = some (Value.bool x.hm) := HW.out.1.c 0
  have f0 : W.frozen? ⟨w.heap.size, 0, none⟩ = false := HW.out.1.f 0
  have x1 : W.cell? ⟨w.heap.size, 1, none⟩ = some (.int .u16 x.mru.toNat) := HW.out.1.c 1
  have f1 : W.frozen? ⟨w.heap.size, 1, none⟩ = false := HW.out.1.f 1
  have x2 : W.cell? ⟨w.heap.size, 2, none⟩ = some (.bool x.ha) := HW.out.1.c 2
  have f2 : W.frozen? ⟨w.heap.size, 2, none⟩ = false := HW.out.1.f 2
  have x3 : W.cell? ⟨w.heap.size, 3, none⟩ = some (.int .u32 x.accm.toNat) := HW.out.1.c 3
  have f3 : W.frozen? ⟨w.heap.size, 3, none⟩ = false := HW.out.1.f 3
  have x4 : W.cell? ⟨w.heap.size, 4, none⟩ = some (.int .u8 x.auth.toNat) := HW.out.1.c 4
  have f4 : W.frozen? ⟨w.heap.size, 4, none⟩ = false := HW.out.1.f 4
  have x5 : W.cell? ⟨w.heap.size, 5, none⟩ = some (.bool x.hg) := HW.out.1.c 5
  have f5 : W.frozen? ⟨w.heap.size, 5, none⟩ = false := HW.out.1.f 5
  have x6 : W.cell? ⟨w.heap.size, 6, none⟩ = some (.int .u32 x.magic.toNat) := HW.out.1.c 6
  have f6 : W.frozen? ⟨w.heap.size, 6, none⟩ = false := HW.out.1.f 6
  have x7 : W.cell? ⟨w.heap.size, 7, none⟩ = some (.bool x.pfc) := HW.out.1.c 7
  have f7 : W.frozen? ⟨w.heap.size, 7, none⟩ = false := HW.out.1.f 7
  have x8 : W.cell? ⟨w.heap.size, 8, none⟩ = some (.bool x.acfc) := HW.out.1.c 8
  have f8 : W.frozen? ⟨w.heap.size, 8, none⟩ = false := HW.out.1.f 8
  have HY : Hid (({ x with pfc := true } : Lcp) = say x (t, d)) := by show _ = _; rw [e]; rfl
  clear e hg
  obtain ⟨V, hV, HV⟩ : ∃ V, W.setCell ⟨w.heap.size, 7, none⟩ (.bool true) = V ∧ Hid (LAt V w.heap.size ({ x with pfc := true } : Lcp) ∧ LAt V (w.heap.size + 1 + 1) lz ∧ Below w.heap.size w V) :=
    ⟨_, rfl, Blk.set HW.out.1 7 _, Blk.moves HW.out.2.2.1 ((Moves.refl (fun k => k = w.heap.size) W).setCell ⟨w.heap.size, 7, none⟩ (fun _ => rfl) _) (by omega), HW.out.2.2.2.1.trans (((Moves.refl (fun k => k = w.heap.size) W).setCell ⟨w.heap.size, 7, none⟩ (fun _ => rfl) _).below HW.out.2.2.2.1.size (fun k e => by omega))⟩
  have c0 : V.cell? ⟨w.heap.size, 0, none⟩ = some (Value.bool x.hm) := HV.out.1.c 0
  have c1 : V.cell? ⟨w.heap.size, 1, none⟩ = some (.int .u16 x.mru.toNat) := HV.out.1.c 1
  have c2 : V.cell? ⟨w.heap.size, 2, none⟩ = some (.bool x.ha) := HV.out.1.c 2
  have c3 : V.cell? ⟨w.heap.size, 3, none⟩ = some (.int .u32 x.accm.toNat) := HV.out.1.c 3
  have c4 : V.cell? ⟨w.heap.size, 4, none⟩ = some (.int .u8 x.auth.toNat) := HV.out.1.c 4
  have c5 : V.cell? ⟨w.heap.size, 5, none⟩ = some (.bool x.hg) := HV.out.1.c 5
  have c6 : V.cell? ⟨w.heap.size, 6, none⟩ = some (.int .u32 x.magic.toNat) := HV.out.1.c 6
  have c7 : V.cell? ⟨w.heap.size, 7, none⟩ = some (.bool true) := HV.out.1.c 7
  have c8 : V.cell? ⟨w.heap.size, 8, none⟩ = some (.bool x.acfc) := HV.out.1.c 8
  have z0 : V.cell? ⟨w.heap.size + 1 + 1, 0, none⟩ = some (Value.bool false) := HV.out.2.1.c 0
  have g0 : V.frozen? ⟨w.heap.size + 1 + 1, 0, none⟩ = false := HV.out.2.1.f 0
  have z1 : V.cell? ⟨w.heap.size + 1 + 1, 1, none⟩ = some (.int .u16 0) := HV.out.2.1.c 1
  have g1 : V.frozen? ⟨w.heap.size + 1 + 1, 1, none⟩ = false := HV.out.2.1.f 1
  have z2 : V.cell? ⟨w.heap.size + 1 + 1, 2, none⟩ = some (.bool false) := HV.out.2.1.c 2
  have g2 : V.frozen? ⟨w.heap.size + 1 + 1, 2, none⟩ = false := HV.out.2.1.f 2
  have z3 : V.cell? ⟨w.heap.size + 1 + 1, 3, none⟩ = some (.int .u32 0) := HV.out.2.1.c 3
  have g3 : V.frozen? ⟨w.heap.size + 1 + 1, 3, none⟩ = false := HV.out.2.1.f 3
  have z4 : V.cell? ⟨w.heap.size + 1 + 1, 4, none⟩ = some (.int .u8 0) := HV.out.2.1.c 4
  have g4 : V.frozen? ⟨w.heap.size + 1 + 1, 4, none⟩ = false := HV.out.2.1.f 4
  have z5 : V.cell? ⟨w.heap.size + 1 + 1, 5, none⟩ = some (.bool false) := HV.out.2.1.c 5
  have g5 : V.frozen? ⟨w.heap.size + 1 + 1, 5, none⟩ = false := HV.out.2.1.f 5
  have z6 : V.cell? ⟨w.heap.size + 1 + 1, 6, none⟩ = some (.int .u32 0) := HV.out.2.1.c 6
  have g6 : V.frozen? ⟨w.heap.size + 1 + 1, 6, none⟩ = false := HV.out.2.1.f 6
  have z7 : V.cell? ⟨w.heap.size + 1 + 1, 7, none⟩ = some (.bool false) := HV.out.2.1.c 7
  have g7 : V.frozen? ⟨w.heap.size + 1 + 1, 7, none⟩ = false := HV.out.2.1.f 7
  have z8 : V.cell? ⟨w.heap.size + 1 + 1, 8, none⟩ = some (.bool false) := HV.out.2.1.c 8
  have g8 : V.frozen? ⟨w.heap.size + 1 + 1, 8, none⟩ = false := HV.out.2.1.f 8
  go_enter Tryz.func55, Tryz.ntmps55
  go_wp2
  clear hW
  have HR := setL_blk (y := ({ x with pfc := true } : Lcp)) HV.out.2.1
  have HBe := setL_below HV.out.2.2 HV.out.2.2.size (g := w.heap.size + 1 + 1) (by omega) (lv ({ x with pfc := true } : Lcp))
  (try simp only [Exit.inBlock, Exit.then])
  refine bodyPost_ret (results_cell_row rfl _ _ (w.heap.size + 1 + 1) _ (lv ({ x with pfc := true } : Lcp)).toArray _ _ rfl HR Tryz.underlying37 rfl (by kernel_rfl)) rfl ?_
  exact ⟨by rw [← HY.out], HBe⟩
set_option maxHeartbeats 2000000 in
theorem rset8 (t : UInt8) (d : ByteArray) (x : Lcp) (w : World) (e : t = 8) (hg : good (t, d) = true) : Calls Tryz.prog 55 #[.agg (lv x).toArray, .agg #[.int .u8 t.toNat, .string d]] w fun e w' => e = .returned (.agg (lv (say x (t, d))).toArray) ∧ Below w.heap.size w w' := by
  show Calls Tryz.prog 55 #[.agg #[Value.bool x.hm, .int .u16 x.mru.toNat, .bool x.ha, .int .u32 x.accm.toNat, .int .u8 x.auth.toNat, .bool x.hg, .int .u32 x.magic.toNat, .bool x.pfc, .bool x.acfc], .agg #[.int .u8 t.toNat, .string d]] w fun e w' => e = .returned (.agg (lv (say x (t, d))).toArray) ∧ Below w.heap.size w w'
  obtain ⟨W, hW, HW⟩ := boxA w x t d
  have q1 : ((t.toNat : Int) == 1) = false := u8_not (n := 1) (by rw [e]; decide)
  have q2 : ((t.toNat : Int) == 2) = false := u8_not (n := 2) (by rw [e]; decide)
  have q5 : ((t.toNat : Int) == 5) = false := u8_not (n := 5) (by rw [e]; decide)
  have q3 : ((t.toNat : Int) == 3) = false := u8_not (n := 3) (by rw [e]; decide)
  have q7 : ((t.toNat : Int) == 7) = false := u8_not (n := 7) (by rw [e]; decide)
  have q8 : ((t.toNat : Int) == 8) = true := u8_is (n := 8) (by rw [e]; rfl)
  have o0 : W.cell? ⟨w.heap.size + 1, 0, none⟩ = some (.int .u8 t.toNat) := HW.out.2.1.c0
  have o1 : W.cell? ⟨w.heap.size + 1, 1, none⟩ = some (.string d) := HW.out.2.1.c1
  have x0 : W.cell? ⟨w.heap.size, 0, none⟩ = some (Value.bool x.hm) := HW.out.1.c 0
  have f0 : W.frozen? ⟨w.heap.size, 0, none⟩ = false := HW.out.1.f 0
  have x1 : W.cell? ⟨w.heap.size, 1, none⟩ = some (.int .u16 x.mru.toNat) := HW.out.1.c 1
  have f1 : W.frozen? ⟨w.heap.size, 1, none⟩ = false := HW.out.1.f 1
  have x2 : W.cell? ⟨w.heap.size, 2, none⟩ = some (.bool x.ha) := HW.out.1.c 2
  have f2 : W.frozen? ⟨w.heap.size, 2, none⟩ = false := HW.out.1.f 2
  have x3 : W.cell? ⟨w.heap.size, 3, none⟩ = some (.int .u32 x.accm.toNat) := HW.out.1.c 3
  have f3 : W.frozen? ⟨w.heap.size, 3, none⟩ = false := HW.out.1.f 3
  have x4 : W.cell? ⟨w.heap.size, 4, none⟩ = some (.int .u8 x.auth.toNat) := HW.out.1.c 4
  have f4 : W.frozen? ⟨w.heap.size, 4, none⟩ = false := HW.out.1.f 4
  have x5 : W.cell? ⟨w.heap.size, 5, none⟩ = some (.bool x.hg) := HW.out.1.c 5
  have f5 : W.frozen? ⟨w.heap.size, 5, none⟩ = false := HW.out.1.f 5
  have x6 : W.cell? ⟨w.heap.size, 6, none⟩ = some (.int .u32 x.magic.toNat) := HW.out.1.c 6
  have f6 : W.frozen? ⟨w.heap.size, 6, none⟩ = false := HW.out.1.f 6
  have x7 : W.cell? ⟨w.heap.size, 7, none⟩ = some (.bool x.pfc) := HW.out.1.c 7
  have f7 : W.frozen? ⟨w.heap.size, 7, none⟩ = false := HW.out.1.f 7
  have x8 : W.cell? ⟨w.heap.size, 8, none⟩ = some (.bool x.acfc) := HW.out.1.c 8
  have f8 : W.frozen? ⟨w.heap.size, 8, none⟩ = false := HW.out.1.f 8
  have HY : Hid (({ x with acfc := true } : Lcp) = say x (t, d)) := by show _ = _; rw [e]; rfl
  clear e hg
  obtain ⟨V, hV, HV⟩ : ∃ V, W.setCell ⟨w.heap.size, 8, none⟩ (.bool true) = V ∧ Hid (LAt V w.heap.size ({ x with acfc := true } : Lcp) ∧ LAt V (w.heap.size + 1 + 1) lz ∧ Below w.heap.size w V) :=
    ⟨_, rfl, Blk.set HW.out.1 8 _, Blk.moves HW.out.2.2.1 ((Moves.refl (fun k => k = w.heap.size) W).setCell ⟨w.heap.size, 8, none⟩ (fun _ => rfl) _) (by omega), HW.out.2.2.2.1.trans (((Moves.refl (fun k => k = w.heap.size) W).setCell ⟨w.heap.size, 8, none⟩ (fun _ => rfl) _).below HW.out.2.2.2.1.size (fun k e => by omega))⟩
  have c0 : V.cell? ⟨w.heap.size, 0, none⟩ = some (Value.bool x.hm) := HV.out.1.c 0
  have c1 : V.cell? ⟨w.heap.size, 1, none⟩ = some (.int .u16 x.mru.toNat) := HV.out.1.c 1
  have c2 : V.cell? ⟨w.heap.size, 2, none⟩ = some (.bool x.ha) := HV.out.1.c 2
  have c3 : V.cell? ⟨w.heap.size, 3, none⟩ = some (.int .u32 x.accm.toNat) := HV.out.1.c 3
  have c4 : V.cell? ⟨w.heap.size, 4, none⟩ = some (.int .u8 x.auth.toNat) := HV.out.1.c 4
  have c5 : V.cell? ⟨w.heap.size, 5, none⟩ = some (.bool x.hg) := HV.out.1.c 5
  have c6 : V.cell? ⟨w.heap.size, 6, none⟩ = some (.int .u32 x.magic.toNat) := HV.out.1.c 6
  have c7 : V.cell? ⟨w.heap.size, 7, none⟩ = some (.bool x.pfc) := HV.out.1.c 7
  have c8 : V.cell? ⟨w.heap.size, 8, none⟩ = some (.bool true) := HV.out.1.c 8
  have z0 : V.cell? ⟨w.heap.size + 1 + 1, 0, none⟩ = some (Value.bool false) := HV.out.2.1.c 0
  have g0 : V.frozen? ⟨w.heap.size + 1 + 1, 0, none⟩ = false := HV.out.2.1.f 0
  have z1 : V.cell? ⟨w.heap.size + 1 + 1, 1, none⟩ = some (.int .u16 0) := HV.out.2.1.c 1
  have g1 : V.frozen? ⟨w.heap.size + 1 + 1, 1, none⟩ = false := HV.out.2.1.f 1
  have z2 : V.cell? ⟨w.heap.size + 1 + 1, 2, none⟩ = some (.bool false) := HV.out.2.1.c 2
  have g2 : V.frozen? ⟨w.heap.size + 1 + 1, 2, none⟩ = false := HV.out.2.1.f 2
  have z3 : V.cell? ⟨w.heap.size + 1 + 1, 3, none⟩ = some (.int .u32 0) := HV.out.2.1.c 3
  have g3 : V.frozen? ⟨w.heap.size + 1 + 1, 3, none⟩ = false := HV.out.2.1.f 3
  have z4 : V.cell? ⟨w.heap.size + 1 + 1, 4, none⟩ = some (.int .u8 0) := HV.out.2.1.c 4
  have g4 : V.frozen? ⟨w.heap.size + 1 + 1, 4, none⟩ = false := HV.out.2.1.f 4
  have z5 : V.cell? ⟨w.heap.size + 1 + 1, 5, none⟩ = some (.bool false) := HV.out.2.1.c 5
  have g5 : V.frozen? ⟨w.heap.size + 1 + 1, 5, none⟩ = false := HV.out.2.1.f 5
  have z6 : V.cell? ⟨w.heap.size + 1 + 1, 6, none⟩ = some (.int .u32 0) := HV.out.2.1.c 6
  have g6 : V.frozen? ⟨w.heap.size + 1 + 1, 6, none⟩ = false := HV.out.2.1.f 6
  have z7 : V.cell? ⟨w.heap.size + 1 + 1, 7, none⟩ = some (.bool false) := HV.out.2.1.c 7
  have g7 : V.frozen? ⟨w.heap.size + 1 + 1, 7, none⟩ = false := HV.out.2.1.f 7
  have z8 : V.cell? ⟨w.heap.size + 1 + 1, 8, none⟩ = some (.bool false) := HV.out.2.1.c 8
  have g8 : V.frozen? ⟨w.heap.size + 1 + 1, 8, none⟩ = false := HV.out.2.1.f 8
  go_enter Tryz.func55, Tryz.ntmps55
  go_wp2
  clear hW
  have HR := setL_blk (y := ({ x with acfc := true } : Lcp)) HV.out.2.1
  have HBe := setL_below HV.out.2.2 HV.out.2.2.size (g := w.heap.size + 1 + 1) (by omega) (lv ({ x with acfc := true } : Lcp))
  (try simp only [Exit.inBlock, Exit.then])
  refine bodyPost_ret (results_cell_row rfl _ _ (w.heap.size + 1 + 1) _ (lv ({ x with acfc := true } : Lcp)).toArray _ _ rfl HR Tryz.underlying37 rfl (by kernel_rfl)) rfl ?_
  exact ⟨by rw [← HY.out], HBe⟩
theorem rset_any (t : UInt8) (d : ByteArray) (x : Lcp) (w : World) (hg : good (t, d) = true) : Calls Tryz.prog 55 #[.agg (lv x).toArray, .agg #[.int .u8 t.toNat, .string d]] w fun e w' => e = .returned (.agg (lv (say x (t, d))).toArray) ∧ Below w.heap.size w w' := by
  rcases known_cases (good_known hg) with e | e | e | e | e | e
  · exact rset1 t d x w e hg
  · exact rset2 t d x w e hg
  · exact rset3 t d x w e hg
  · exact rset5 t d x w e hg
  · exact rset7 t d x w e hg
  · exact rset8 t d x w e hg
end Go.Proofs.YtcncmddhjbnggaaGreat.Lco
