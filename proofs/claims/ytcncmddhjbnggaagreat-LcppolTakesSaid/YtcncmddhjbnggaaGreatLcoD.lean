/- Contracts of lcpopt's add, Good and Known. -/
import Derived.Test.YtcncmddhjbnggaaGreatLcoC
import Derived.Laws.EntriesVeiled
import Derived.Deep.RegionWith
namespace Go.Proofs.YtcncmddhjbnggaaGreat.Lco
open Go.RowKit Go.Proofs.YtcncmddhjbnggaaGreat.Oct Go.Proofs.YtcncmddhjbnggaaGreat.Row Go.Proofs.YtcncmddhjbnggaaGreat.Mem Go.Proofs.YtcncmddhjbnggaaGreat.Opt

theorem boxA (w : World) (x : Lcp) (t : UInt8) (d : ByteArray) : ∃ W, ((w.alloc (.cells #[Value.bool x.hm, .int .u16 x.mru.toNat, .bool x.ha, .int .u32 x.accm.toNat, .int .u8 x.auth.toNat, .bool x.hg, .int .u32 x.magic.toNat, .bool x.pfc, .bool x.acfc] 37)).alloc (.cells #[.int .u8 t.toNat, .string d] 51)).alloc (.cells #[Value.bool false, .int .u16 0, .bool false, .int .u32 0, .int .u8 0, .bool false, .int .u32 0, .bool false, .bool false] 37) = W ∧ Hid (LAt W w.heap.size x ∧ At W (w.heap.size + 1) (t, d) ∧ LAt W (w.heap.size + 1 + 1) lz ∧ Below w.heap.size w W ∧ W.heap.size = w.heap.size + 1 + 1 + 1) := by
  refine ⟨_, rfl, ((lat_new w x).alloc _).alloc _, ?_, ?_, (((Below.refl w.heap.size w).alloc (Nat.le_refl _) _).alloc (by simp) _).alloc (by simp <;> omega) _, by simp⟩
  · have := (at_new (w.alloc (.cells (lv x).toArray 37)) t d).alloc (.cells #[Value.bool false, .int .u16 0, .bool false, .int .u32 0, .int .u8 0, .bool false, .int .u32 0, .bool false, .bool false] 37)
    rw [show (w.alloc (.cells (lv x).toArray 37)).heap.size = w.heap.size + 1 by simp] at this
    exact this
  · have := lat_new ((w.alloc (.cells (lv x).toArray 37)).alloc (.cells #[.int .u8 t.toNat, .string d] 51)) lz
    rw [show ((w.alloc (.cells (lv x).toArray 37)).alloc (.cells #[.int .u8 t.toNat, .string d] 51)).heap.size = w.heap.size + 1 + 1 by simp] at this
    exact this
/-- A meaning in a variable's block. -/
theorem boxM (W : World) (v0 v1 : Value) : ∃ V, W.alloc (.cells #[v0, v1] 108) = V ∧ Hid (Blk V W.heap.size [v0, v1] 108 ∧ Below W.heap.size W V) :=
  ⟨_, rfl, blk_new W [v0, v1] _, (Below.refl W.heap.size W).alloc (Nat.le_refl _) _⟩
theorem zall {W : World} {g : Nat} (h : LAt W g lz) : W.cell? ⟨g, 0, none⟩ = some (Value.bool false) ∧ W.cell? ⟨g, 1, none⟩ = some (.int .u16 0) ∧ W.cell? ⟨g, 2, none⟩ = some (.bool false) ∧ W.cell? ⟨g, 3, none⟩ = some (.int .u32 0) ∧ W.cell? ⟨g, 4, none⟩ = some (.int .u8 0) ∧ W.cell? ⟨g, 5, none⟩ = some (.bool false) ∧ W.cell? ⟨g, 6, none⟩ = some (.int .u32 0) ∧ W.cell? ⟨g, 7, none⟩ = some (.bool false) ∧ W.cell? ⟨g, 8, none⟩ = some (.bool false) ∧ W.frozen? ⟨g, 0, none⟩ = false ∧ W.frozen? ⟨g, 1, none⟩ = false ∧ W.frozen? ⟨g, 2, none⟩ = false ∧ W.frozen? ⟨g, 3, none⟩ = false ∧ W.frozen? ⟨g, 4, none⟩ = false ∧ W.frozen? ⟨g, 5, none⟩ = false ∧ W.frozen? ⟨g, 6, none⟩ = false ∧ W.frozen? ⟨g, 7, none⟩ = false ∧ W.frozen? ⟨g, 8, none⟩ = false := ⟨h.c 0, h.c 1, h.c 2, h.c 3, h.c 4, h.c 5, h.c 6, h.c 7, h.c 8, h.f 0, h.f 1, h.f 2, h.f 3, h.f 4, h.f 5, h.f 6, h.f 7, h.f 8⟩
theorem not_known {t : UInt8} {d : ByteArray} (h : known t = false) : good (t, d) = false := by
  rw [Bool.eq_false_iff]
  intro e
  rw [show known t = true from good_known e] at h
  cases h
set_option maxHeartbeats 4000000 in
set_option maxRecDepth 100000 in
theorem add_any (x : Lcp) (t : UInt8) (d : ByteArray) (m : Nat) (w : World) (hm : Mp w m) (hd : d.size ≤ maxLen) : Calls Tryz.prog 63 #[.agg (lv x).toArray, .agg #[.int .u8 t.toNat, .string d], .map (some m)] w (ReadQ (t, d) x w) := by
  show Calls Tryz.prog 63 #[.agg #[Value.bool x.hm, .int .u16 x.mru.toNat, .bool x.ha, .int .u32 x.accm.toNat, .int .u8 x.auth.toNat, .bool x.hg, .int .u32 x.magic.toNat, .bool x.pfc, .bool x.acfc], .agg #[.int .u8 t.toNat, .string d], .map (some m)] w (ReadQ (t, d) x w)
  obtain ⟨W, hW, HW⟩ := boxA w x t d
  have HM := Lib.hid (hm.below HW.out.2.2.2.1 hm.lt); clear hm
  have c0 : W.cell? ⟨w.heap.size, 0, none⟩ = some (Value.bool x.hm) := HW.out.1.c 0
  have c1 : W.cell? ⟨w.heap.size, 1, none⟩ = some (.int .u16 x.mru.toNat) := HW.out.1.c 1
  have c2 : W.cell? ⟨w.heap.size, 2, none⟩ = some (.bool x.ha) := HW.out.1.c 2
  have c3 : W.cell? ⟨w.heap.size, 3, none⟩ = some (.int .u32 x.accm.toNat) := HW.out.1.c 3
  have c4 : W.cell? ⟨w.heap.size, 4, none⟩ = some (.int .u8 x.auth.toNat) := HW.out.1.c 4
  have c5 : W.cell? ⟨w.heap.size, 5, none⟩ = some (.bool x.hg) := HW.out.1.c 5
  have c6 : W.cell? ⟨w.heap.size, 6, none⟩ = some (.int .u32 x.magic.toNat) := HW.out.1.c 6
  have c7 : W.cell? ⟨w.heap.size, 7, none⟩ = some (.bool x.pfc) := HW.out.1.c 7
  have c8 : W.cell? ⟨w.heap.size, 8, none⟩ = some (.bool x.acfc) := HW.out.1.c 8
  have o0 : W.cell? ⟨w.heap.size + 1, 0, none⟩ = some (.int .u8 t.toNat) := HW.out.2.1.c0
  have o1 : W.cell? ⟨w.heap.size + 1, 1, none⟩ = some (.string d) := HW.out.2.1.c1
  have hsz := HW.out.2.2.2.2
  cases ht : known t
  · have hl := look_no ht HM.out
    have HG := Lib.hid (not_known (d := d) ht)
    obtain ⟨V, hV, HV⟩ := boxM W .nilFunc .nilFunc
    subst hV
    have HB := Lib.hid (HW.out.2.2.2.1.trans (HV.out.2.mono (Nat.le_trans HW.out.2.2.2.1.size (Nat.le_refl _))))
    have HZ := Lib.hid (HW.out.2.2.1.callee HV.out.2)
    have z0 : (W.alloc (.cells #[.nilFunc, .nilFunc] 108)).cell? ⟨w.heap.size + 1 + 1, 0, none⟩ = some (Value.bool false) := HZ.out.c 0
    have g0 := HZ.out.f 0
    have z1 : (W.alloc (.cells #[.nilFunc, .nilFunc] 108)).cell? ⟨w.heap.size + 1 + 1, 1, none⟩ = some (.int .u16 0) := HZ.out.c 1
    have g1 := HZ.out.f 1
    have z2 : (W.alloc (.cells #[.nilFunc, .nilFunc] 108)).cell? ⟨w.heap.size + 1 + 1, 2, none⟩ = some (.bool false) := HZ.out.c 2
    have g2 := HZ.out.f 2
    have z3 : (W.alloc (.cells #[.nilFunc, .nilFunc] 108)).cell? ⟨w.heap.size + 1 + 1, 3, none⟩ = some (.int .u32 0) := HZ.out.c 3
    have g3 := HZ.out.f 3
    have z4 : (W.alloc (.cells #[.nilFunc, .nilFunc] 108)).cell? ⟨w.heap.size + 1 + 1, 4, none⟩ = some (.int .u8 0) := HZ.out.c 4
    have g4 := HZ.out.f 4
    have z5 : (W.alloc (.cells #[.nilFunc, .nilFunc] 108)).cell? ⟨w.heap.size + 1 + 1, 5, none⟩ = some (.bool false) := HZ.out.c 5
    have g5 := HZ.out.f 5
    have z6 : (W.alloc (.cells #[.nilFunc, .nilFunc] 108)).cell? ⟨w.heap.size + 1 + 1, 6, none⟩ = some (.int .u32 0) := HZ.out.c 6
    have g6 := HZ.out.f 6
    have z7 : (W.alloc (.cells #[.nilFunc, .nilFunc] 108)).cell? ⟨w.heap.size + 1 + 1, 7, none⟩ = some (.bool false) := HZ.out.c 7
    have g7 := HZ.out.f 7
    have z8 : (W.alloc (.cells #[.nilFunc, .nilFunc] 108)).cell? ⟨w.heap.size + 1 + 1, 8, none⟩ = some (.bool false) := HZ.out.c 8
    have g8 := HZ.out.f 8
    clear ht hsz
    go_enter Tryz.func63, Tryz.ntmps63
    go_wp2
    have HR := setL_blk (y := lz) HZ.out
    have HBe := setL_below HB.out HB.out.size (g := w.heap.size + 1 + 1) (by omega) (lv lz)
    (try simp only [Exit.inBlock, Exit.then])
    refine bodyPost_ret (results_row1 rfl _ _ (w.heap.size + 1 + 1) (lv lz) _ _ rfl HR Tryz.underlying37 rfl (by kernel_rfl)) rfl ?_
    exact ⟨lz, by rw [HG.out]; rfl, fun e => (by rw [HG.out] at e; cases e), HBe⟩
  · have hl := look_yes ht true HM.out
    have HR := Lib.hid (fun w => read_any ht d x w hd)
    have hR := read_enters ht
    simp only [pair, if_true] at hl
    generalize fnR t = R at *
    generalize fnD t = D at *
    obtain ⟨V, hV, HV⟩ := boxM W (.func (.func D) #[] #[]) (.func (.func R) #[] #[])
    have HB : Hid (Below w.heap.size w V) := HW.out.2.2.2.1.trans (HV.out.2.mono (by omega))
    have HZ : Hid (LAt V (w.heap.size + 1 + 1) lz) := HW.out.2.2.1.callee HV.out.2
    have HX : Hid (LAt V w.heap.size x) := HW.out.1.callee HV.out.2
    have HO : Hid (At V (w.heap.size + 1) (t, d)) := HW.out.2.1.callee HV.out.2
    have m0 : V.cell? ⟨W.heap.size, 1, none⟩ = some (.func (.func R) #[] #[]) := Blk.at_ HV.out.1 1
    have p1 : V.cell? ⟨w.heap.size + 1, 1, none⟩ = some (.string d) := HO.out.c1
    have x0 : V.cell? ⟨w.heap.size, 0, none⟩ = some (Value.bool x.hm) := HX.out.c 0
    have x1 : V.cell? ⟨w.heap.size, 1, none⟩ = some (.int .u16 x.mru.toNat) := HX.out.c 1
    have x2 : V.cell? ⟨w.heap.size, 2, none⟩ = some (.bool x.ha) := HX.out.c 2
    have x3 : V.cell? ⟨w.heap.size, 3, none⟩ = some (.int .u32 x.accm.toNat) := HX.out.c 3
    have x4 : V.cell? ⟨w.heap.size, 4, none⟩ = some (.int .u8 x.auth.toNat) := HX.out.c 4
    have x5 : V.cell? ⟨w.heap.size, 5, none⟩ = some (.bool x.hg) := HX.out.c 5
    have x6 : V.cell? ⟨w.heap.size, 6, none⟩ = some (.int .u32 x.magic.toNat) := HX.out.c 6
    have x7 : V.cell? ⟨w.heap.size, 7, none⟩ = some (.bool x.pfc) := HX.out.c 7
    have x8 : V.cell? ⟨w.heap.size, 8, none⟩ = some (.bool x.acfc) := HX.out.c 8
    clear ht hsz
    go_enter Tryz.func63, Tryz.ntmps63
    go_wp2_with fail
    refine (HR.out _).mono ?_
    rintro e w6 ⟨y, rfl, hy, hb6⟩
    have HY := Lib.hid hy
    have HB6 := Lib.hid (HB.out.trans (hb6.mono HB.out.size))
    have HZ6 := Lib.hid (HZ.out.callee hb6)
    clear hV hy hb6 hR hl HR m0 p1 HX HO HV HB HZ HM c0 c1 c2 c3 c4 c5 c6 c7 c8 o0 o1 x0 x1 x2 x3 x4 x5 x6 x7 x8
    unfold lv
    have z0 : w6.cell? ⟨w.heap.size + 1 + 1, 0, none⟩ = some (Value.bool false) := HZ6.out.c 0
    have g0 := HZ6.out.f 0
    have z1 : w6.cell? ⟨w.heap.size + 1 + 1, 1, none⟩ = some (.int .u16 0) := HZ6.out.c 1
    have g1 := HZ6.out.f 1
    have z2 : w6.cell? ⟨w.heap.size + 1 + 1, 2, none⟩ = some (.bool false) := HZ6.out.c 2
    have g2 := HZ6.out.f 2
    have z3 : w6.cell? ⟨w.heap.size + 1 + 1, 3, none⟩ = some (.int .u32 0) := HZ6.out.c 3
    have g3 := HZ6.out.f 3
    have z4 : w6.cell? ⟨w.heap.size + 1 + 1, 4, none⟩ = some (.int .u8 0) := HZ6.out.c 4
    have g4 := HZ6.out.f 4
    have z5 : w6.cell? ⟨w.heap.size + 1 + 1, 5, none⟩ = some (.bool false) := HZ6.out.c 5
    have g5 := HZ6.out.f 5
    have z6 : w6.cell? ⟨w.heap.size + 1 + 1, 6, none⟩ = some (.int .u32 0) := HZ6.out.c 6
    have g6 := HZ6.out.f 6
    have z7 : w6.cell? ⟨w.heap.size + 1 + 1, 7, none⟩ = some (.bool false) := HZ6.out.c 7
    have g7 := HZ6.out.f 7
    have z8 : w6.cell? ⟨w.heap.size + 1 + 1, 8, none⟩ = some (.bool false) := HZ6.out.c 8
    have g8 := HZ6.out.f 8
    go_wp2
    have HR := setL_blk (y := y) HZ6.out
    have HBe := setL_below HB6.out HB6.out.size (g := w.heap.size + 1 + 1) (by omega) (lv y)
    (try simp only [Exit.inBlock, Exit.then])
    refine bodyPost_ret (results_row1 rfl _ _ (w.heap.size + 1 + 1) (lv y) _ _ rfl HR Tryz.underlying37 rfl (by kernel_rfl)) rfl ?_
    exact ⟨y, rfl, HY.out, HBe⟩
end Go.Proofs.YtcncmddhjbnggaaGreat.Lco
