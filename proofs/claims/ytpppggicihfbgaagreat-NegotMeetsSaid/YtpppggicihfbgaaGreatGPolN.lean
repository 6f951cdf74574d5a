/- Put together: PolN, PolO, NegCa. -/
import Derived.Test.YtpppggicihfbgaaGreatGLcoA
import Derived.Test.YtpppggicihfbgaaGreatNegMx

/- Contracts of made, takesFit, valid, New. -/
namespace Go.Proofs.YtpppggicihfbgaaGreat.Pol
open Go.RowKit Go.Proofs.YtpppggicihfbgaaGreat.Oct Go.Proofs.YtpppggicihfbgaaGreat.Row Go.Proofs.YtpppggicihfbgaaGreat.Mem Go.Proofs.YtpppggicihfbgaaGreat.Opt Go.Proofs.YtpppggicihfbgaaGreat.Lco

def zc : Conf := ⟨0, false, 0, 0, 0, 0, false, false, false, 0⟩
def zp : Po := ⟨lz, zc, lz, lz, 0, 0, false⟩
def CAt (w : World) (g : Nat) (c : Conf) : Prop := Blk w g (cv c) 25
theorem CAt.all {w : World} {g : Nat} {c : Conf} (h : CAt w g c) : w.cell? ⟨g, 0, none⟩ = some (.int .u16 c.mru.toNat) ∧ w.cell? ⟨g, 1, none⟩ = some (.bool c.ha) ∧ w.cell? ⟨g, 2, none⟩ = some (.int .u32 c.accm.toNat) ∧ w.cell? ⟨g, 3, none⟩ = some (.int .u8 c.auth.toNat) ∧ w.cell? ⟨g, 4, none⟩ = some (.int .u8 c.takes.toNat) ∧ w.cell? ⟨g, 5, none⟩ = some (.int .u8 c.can.toNat) ∧ w.cell? ⟨g, 6, none⟩ = some (.bool c.mg) ∧ w.cell? ⟨g, 7, none⟩ = some (.bool c.pfc) ∧ w.cell? ⟨g, 8, none⟩ = some (.bool c.acfc) ∧ w.cell? ⟨g, 9, none⟩ = some (.int .i64 c.mn) := ⟨Blk.at_ h 0, Blk.at_ h 1, Blk.at_ h 2, Blk.at_ h 3, Blk.at_ h 4, Blk.at_ h 5, Blk.at_ h 6, Blk.at_ h 7, Blk.at_ h 8, Blk.at_ h 9⟩
theorem CAt.callee {w w' : World} {g : Nat} {c : Conf} (h : CAt w g c) (hb : Below w.heap.size w w') : CAt w' g c := Blk.callee h hb
theorem cat_new (w : World) (c : Conf) : CAt (w.alloc (.cells (cv c).toArray 25)) w.heap.size c := blk_new w (cv c) _
theorem boxC (w : World) (c : Conf) : ∃ W, w.alloc (.cells #[Value.int .u16 c.mru.toNat, .bool c.ha, .int .u32 c.accm.toNat, .int .u8 c.auth.toNat, .int .u8 c.takes.toNat, .int .u8 c.can.toNat, .bool c.mg, .bool c.pfc, .bool c.acfc, .int .i64 c.mn] 25) = W ∧ Hid (CAt W w.heap.size c ∧ Below w.heap.size w W ∧ W.heap.size = w.heap.size + 1) :=
  ⟨_, rfl, cat_new w c, (Below.refl w.heap.size w).alloc (Nat.le_refl _) _, by simp⟩
set_option maxRecDepth 100000 in
theorem pol_size (p : Po) : (Tryz.prog.info? 78).map (·.size) = some (pv p).toArray.size := by
  rw [List.size_toArray]
  kernel_rfl
theorem lv_ones (x : Lcp) : ∀ v ∈ lv x, v.oneCell' = true := by
  intro v hv
  unfold lv at hv
  simp only [List.mem_cons, List.not_mem_nil, or_false] at hv
  rcases hv with rfl | rfl | rfl | rfl | rfl | rfl | rfl | rfl | rfl <;> rfl
theorem cv_ones (c : Conf) : ∀ v ∈ cv c, v.oneCell' = true := by
  intro v hv
  unfold cv at hv
  simp only [List.mem_cons, List.not_mem_nil, or_false] at hv
  rcases hv with rfl | rfl | rfl | rfl | rfl | rfl | rfl | rfl | rfl | rfl <;> rfl
theorem pv_one (p : Po) : (pv p).toArray.all (·.oneCell') = true := by
  refine all_oneCell_toArray fun v hv => ?_
  unfold pv at hv
  simp only [List.mem_append] at hv
  rcases hv with h | h | h | h | h
  · exact lv_ones _ v h
  · exact cv_ones _ v h
  · exact lv_ones _ v h
  · exact lv_ones _ v h
  · simp only [List.mem_cons, List.not_mem_nil, or_false] at h
    rcases h with rfl | rfl | rfl <;> rfl
theorem pat_new (w : World) (p : Po) : PAt (w.alloc (.cells (pv p).toArray 78)) w.heap.size p := blk_new w (pv p) _
theorem pat_row {W : World} {g : Nat} {p : Po} (h : PAt W g p) (q : Po) : PAt (W.setRow g (pv q).toArray) g q := Blk.setRow h (pv q)
theorem pol_end {f : Func} {r : Nat} (hf : f.results = #[.cell r 78]) (tmps : Array Value) {W : World} {g : Nat} (p : Po) (h : PAt W g p) (hp : tmps.getD r undef = .pointer (some ⟨g, 0, none⟩)) :
    (results f tmps).run Tryz.prog W = .ok (.agg (pv p).toArray) W := results_cell_row hf tmps W g _ _ _ _ hp h Tryz.underlying78 rfl (pol_size p)
theorem boxCP (w : World) (c : Conf) : ∃ W, (w.alloc (.cells #[Value.int .u16 c.mru.toNat, .bool c.ha, .int .u32 c.accm.toNat, .int .u8 c.auth.toNat, .int .u8 c.takes.toNat, .int .u8 c.can.toNat, .bool c.mg, .bool c.pfc, .bool c.acfc, .int .i64 c.mn] 25)).alloc (.cells #[Value.bool false, .int .u16 0, .bool false, .int .u32 0, .int .u8 0, .bool false, .int .u32 0, .bool false, .bool false, .int .u16 0, .bool false, .int .u32 0, .int .u8 0, .int .u8 0, .int .u8 0, .bool false, .bool false, .bool false, .int .i64 0, .bool false, .int .u16 0, .bool false, .int .u32 0, .int .u8 0, .bool false, .int .u32 0, .bool false, .bool false, .bool false, .int .u16 0, .bool false, .int .u32 0, .int .u8 0, .bool false, .int .u32 0, .bool false, .bool false, .int .i64 0, .int .i64 0, .bool false] 78) = W ∧ Hid (CAt W w.heap.size c ∧ PAt W (w.heap.size + 1) zp ∧ Below w.heap.size w W ∧ W.heap.size = w.heap.size + 1 + 1) :=
  ⟨_, rfl, Blk.alloc (cat_new w c) _, by have := pat_new (w.alloc (.cells (cv c).toArray 25)) zp; rw [World.size_alloc] at this; exact this, ((Below.refl w.heap.size w).alloc (Nat.le_refl _) _).alloc (by simp) _, by simp⟩
theorem u16_ne0 (v : UInt16) : ((v.toNat : Int) != 0) = (v != 0) := by
  rw [Bool.eq_iff_iff, bne_iff_ne, bne_iff_ne]
  exact ⟨fun h e => h (by rw [e]; rfl), fun h e => h (UInt16.toNat_inj.1 (by show v.toNat = 0; omega))⟩
def WAt (w : World) (g : Nat) (x : Lcp) : Prop := Blk w g (lv x) 76
theorem wat_new (w : World) (x : Lcp) : WAt (w.alloc (.cells (lv x).toArray 76)) w.heap.size x := blk_new w (lv x) _
theorem WAt.all {w : World} {g : Nat} {x : Lcp} (h : WAt w g x) : w.cell? ⟨g, 0, none⟩ = some (Value.bool x.hm) ∧ w.cell? ⟨g, 1, none⟩ = some (.int .u16 x.mru.toNat) ∧ w.cell? ⟨g, 2, none⟩ = some (.bool x.ha) ∧ w.cell? ⟨g, 3, none⟩ = some (.int .u32 x.accm.toNat) ∧ w.cell? ⟨g, 4, none⟩ = some (.int .u8 x.auth.toNat) ∧ w.cell? ⟨g, 5, none⟩ = some (.bool x.hg) ∧ w.cell? ⟨g, 6, none⟩ = some (.int .u32 x.magic.toNat) ∧ w.cell? ⟨g, 7, none⟩ = some (.bool x.pfc) ∧ w.cell? ⟨g, 8, none⟩ = some (.bool x.acfc) ∧ w.frozen? ⟨g, 5, none⟩ = false ∧ w.frozen? ⟨g, 6, none⟩ = false :=
  ⟨Blk.at_ h 0, Blk.at_ h 1, Blk.at_ h 2, Blk.at_ h 3, Blk.at_ h 4, Blk.at_ h 5, Blk.at_ h 6, Blk.at_ h 7, Blk.at_ h 8, Blk.frozen h 5, Blk.frozen h 6⟩
theorem boxW (W : World) (b : Bool) (c : Conf) : ∃ V, W.alloc (.cells #[Value.bool b, .int .u16 c.mru.toNat, .bool c.ha, .int .u32 c.accm.toNat, .int .u8 c.auth.toNat, .bool false, .int .u32 0, .bool c.pfc, .bool c.acfc] 76) = V ∧ Hid (WAt V W.heap.size ⟨b, c.mru, c.ha, c.accm, c.auth, false, 0, c.pfc, c.acfc⟩ ∧ Below W.heap.size W V) :=
  ⟨_, rfl, wat_new W ⟨b, c.mru, c.ha, c.accm, c.auth, false, 0, c.pfc, c.acfc⟩, (Below.refl _ _).alloc (Nat.le_refl _) _⟩
set_option maxHeartbeats 8000000 in
set_option maxRecDepth 100000 in
theorem made_any (c : Conf) (m : UInt32) (w : World) : Calls Tryz.prog 29 #[.agg #[Value.int .u16 c.mru.toNat, .bool c.ha, .int .u32 c.accm.toNat, .int .u8 c.auth.toNat, .int .u8 c.takes.toNat, .int .u8 c.can.toNat, .bool c.mg, .bool c.pfc, .bool c.acfc, .int .i64 c.mn], .int .u32 m.toNat] w fun e w' => e = .returned (.agg (pv (newP c m)).toArray) ∧ Below w.heap.size w w' := by
  obtain ⟨W, hW, HW⟩ := boxCP w c
  obtain ⟨c0, c1, c2, c3, c4, c5, c6, c7, c8, c9⟩ := HW.out.1.all
  have hx := u16_ne0 c.mru
  have HC := Lib.hid HW.out.1
  have HP := Lib.hid HW.out.2.1
  have HB := Lib.hid HW.out.2.2.1
  have HS := Lib.hid HW.out.2.2.2
  have HE : Hid (newP c m = ⟨⟨c.mru != 0, c.mru, c.ha, c.accm, c.auth, c.mg, if c.mg then nz m else 0, c.pfc, c.acfc⟩, c, lz, lz, 0, 0, false⟩) := rfl
  generalize hb : (c.mru != 0) = b at *
  clear hb
  obtain ⟨V, hV, HV⟩ := boxW W b c
  have HCV := Lib.hid (HC.out.callee HV.out.2)
  have HPV := Lib.hid (HP.out.callee HV.out.2)
  have HBV := Lib.hid (HB.out.trans (HV.out.2.mono HB.out.size))
  obtain ⟨d0, d1, d2, d3, d4, d5, d6, d7, d8, d9⟩ := HCV.out.all
  obtain ⟨x0, x1, x2, x3, x4, x5, x6, x7, x8, f5, f6⟩ := WAt.all HV.out.1
  have hgp : w.heap.size + 1 < W.heap.size := by have := HS.out; omega
  cases hm : c.mg
  · rw [hm] at c6 d6 hW
    have HF : Hid (newP c m = ⟨⟨b, c.mru, c.ha, c.accm, c.auth, false, 0, c.pfc, c.acfc⟩, c, lz, lz, 0, 0, false⟩) := by show _ = _; rw [HE.out, hm]; rfl
    have HN := Lib.hid (pol_size (newP c m))
    have HQ : Hid ((pv (newP c m)).toArray = #[Value.bool b, .int .u16 c.mru.toNat, .bool c.ha, .int .u32 c.accm.toNat, .int .u8 c.auth.toNat, .bool false, .int .u32 0, .bool c.pfc, .bool c.acfc, .int .u16 c.mru.toNat, .bool c.ha, .int .u32 c.accm.toNat, .int .u8 c.auth.toNat, .int .u8 c.takes.toNat, .int .u8 c.can.toNat, .bool false, .bool c.pfc, .bool c.acfc, .int .i64 c.mn, .bool false, .int .u16 0, .bool false, .int .u32 0, .int .u8 0, .bool false, .int .u32 0, .bool false, .bool false, .bool false, .int .u16 0, .bool false, .int .u32 0, .int .u8 0, .bool false, .int .u32 0, .bool false, .bool false, .int .i64 0, .int .i64 0, .bool false]) := by
      show _ = _
      rw [HF.out]
      unfold pv lv cv
      simp only [hm]
      rfl
    clear hm HE HF HC HP HB
    have x6 : V.cell? ⟨W.heap.size, 6, none⟩ = some (.int .u32 0) := x6
    go_enter Tryz.func29, Tryz.ntmps29
    go_wp2_with (refine wpList_store_row rfl 78 _ _ rfl (w.heap.size + 1) (pv (newP c m)).toArray rfl (by rw [HQ.out]; rfl) 78 _ HPV.out HN.out rfl (pv_one _) ?_)
    (try simp only [Exit.inBlock, Exit.then])
    refine bodyPost_ret (pol_end rfl _ (newP c m) (pat_row HPV.out (newP c m)) rfl) rfl ?_
    exact ⟨rfl, HBV.out.trans ((moves_row _ (w.heap.size + 1) _).below HBV.out.size (fun k e => by rw [e]; exact Nat.le_succ _))⟩
  · rw [hm] at c6 d6 hW
    have HF : Hid (newP c m = ⟨⟨b, c.mru, c.ha, c.accm, c.auth, true, nz m, c.pfc, c.acfc⟩, c, lz, lz, 0, 0, false⟩) := by show _ = _; rw [HE.out, hm]; rfl
    have HN := Lib.hid (pol_size (newP c m))
    have HQ : Hid ((pv (newP c m)).toArray = #[Value.bool b, .int .u16 c.mru.toNat, .bool c.ha, .int .u32 c.accm.toNat, .int .u8 c.auth.toNat, .bool true, .int .u32 (nz m).toNat, .bool c.pfc, .bool c.acfc, .int .u16 c.mru.toNat, .bool c.ha, .int .u32 c.accm.toNat, .int .u8 c.auth.toNat, .int .u8 c.takes.toNat, .int .u8 c.can.toNat, .bool true, .bool c.pfc, .bool c.acfc, .int .i64 c.mn, .bool false, .int .u16 0, .bool false, .int .u32 0, .int .u8 0, .bool false, .int .u32 0, .bool false, .bool false, .bool false, .int .u16 0, .bool false, .int .u32 0, .int .u8 0, .bool false, .int .u32 0, .bool false, .bool false, .int .i64 0, .int .i64 0, .bool false]) := by
      show _ = _
      rw [HF.out]
      unfold pv lv cv
      simp only [hm]
      rfl
    obtain ⟨V2, hV2⟩ : ∃ V2, (V.setCell ⟨W.heap.size, 5, none⟩ (.bool true)).setCell ⟨W.heap.size, 6, none⟩ (.int .u32 (nz m).toNat) = V2 := ⟨_, rfl⟩
    have hmv : Moves (fun k => k = W.heap.size) V V2 := by rw [← hV2]; exact (set_moves _ _ _ _).trans (set_moves _ _ _ _) (fun _ _ h => h)
    have HW2 : Hid (WAt V2 W.heap.size ⟨b, c.mru, c.ha, c.accm, c.auth, true, nz m, c.pfc, c.acfc⟩) := by show WAt _ _ _; rw [← hV2]; exact (Blk.set HV.out.1 5 (.bool true)).set 6 (.int .u32 (nz m).toNat)
    have HC2 : Hid (CAt V2 w.heap.size c) := Blk.moves HCV.out hmv (by omega)
    have HP2 : Hid (PAt V2 (w.heap.size + 1) zp) := HPV.out.moves hmv (by omega)
    have HB2 : Hid (Below w.heap.size w V2) := HBV.out.trans (hmv.below HBV.out.size (fun k e => by omega))
    obtain ⟨e0, e1, e2, e3, e4, e5, e6, e7, e8, e9⟩ := HC2.out.all
    obtain ⟨y0, y1, y2, y3, y4, y5, y6, y7, y8, _, _⟩ := WAt.all HW2.out
    rw [hm] at e6
    have HNZ := Lib.hid (fun w => nz_any m w)
    clear hm HE HF HC HP HB hmv
    have x6 : V.cell? ⟨W.heap.size, 6, none⟩ = some (.int .u32 0) := x6
    go_enter Tryz.func29, Tryz.ntmps29
    go_wp2_with fail
    refine (HNZ.out _).mono ?_
    rintro e _ ⟨rfl, rfl⟩
    go_wp2_with (refine wpList_store_row rfl 78 _ _ rfl (w.heap.size + 1) (pv (newP c m)).toArray rfl (by rw [HQ.out]; rfl) 78 _ HP2.out HN.out rfl (pv_one _) ?_)
    (try simp only [Exit.inBlock, Exit.then])
    refine bodyPost_ret (pol_end rfl _ (newP c m) (pat_row HP2.out (newP c m)) rfl) rfl ?_
    exact ⟨rfl, HB2.out.trans ((moves_row _ (w.heap.size + 1) _).below HB2.out.size (fun k e => by rw [e]; exact Nat.le_succ _))⟩
end Go.Proofs.YtpppggicihfbgaaGreat.Pol

/- Contracts of takesFit, valid, New. -/
namespace Go.Proofs.YtpppggicihfbgaaGreat.Pol
open Go.RowKit Go.Proofs.YtpppggicihfbgaaGreat.Oct Go.Proofs.YtpppggicihfbgaaGreat.Row Go.Proofs.YtpppggicihfbgaaGreat.Mem Go.Proofs.YtpppggicihfbgaaGreat.Opt Go.Proofs.YtpppggicihfbgaaGreat.Lco

theorem u8_eq0 (v : UInt8) : ((v.toNat : Int) == 0) = (v == 0) := by
  rw [Bool.eq_iff_iff, beq_iff_eq, beq_iff_eq]
  exact ⟨fun h => UInt8.toNat_inj.1 (by show v.toNat = 0; omega), fun h => by rw [h]; rfl⟩
theorem u16_eq0 (v : UInt16) : ((v.toNat : Int) == 0) = (v == 0) := by
  rw [Bool.eq_iff_iff, beq_iff_eq, beq_iff_eq]
  exact ⟨fun h => UInt16.toNat_inj.1 (by show v.toNat = 0; omega), fun h => by rw [h]; rfl⟩
theorem u32_eq0 (v : UInt32) : ((v.toNat : Int) == 0) = (v == 0) := by
  rw [Bool.eq_iff_iff, beq_iff_eq, beq_iff_eq]
  exact ⟨fun h => UInt32.toNat_inj.1 (by show v.toNat = 0; omega), fun h => by rw [h]; rfl⟩
theorem u16_ge (v : UInt16) : decide ((64 : Int) ≤ (v.toNat : Int)) = decide (64 ≤ v) := by
  have h : 64 ≤ v ↔ 64 ≤ v.toNat := UInt16.le_iff_toNat_le
  rw [decide_eq_decide, h]; omega
theorem u8_le (v n : UInt8) (k : Int) (hk : k = (n.toNat : Int)) : decide ((v.toNat : Int) ≤ k) = decide (v ≤ n) := by
  have h : v ≤ n ↔ v.toNat ≤ n.toNat := UInt8.le_iff_toNat_le
  rw [decide_eq_decide, h, hk]; omega
set_option maxHeartbeats 1000000 in
set_option maxRecDepth 100000 in
theorem takesFit_any (a t : UInt8) (w : World) : Calls Tryz.prog 39 #[.int .u8 a.toNat, .int .u8 t.toNat] w fun e w' => e = .returned (.bool (fits a t)) ∧ w = w' := by
  have h0 := u8_eq0 a
  by_cases h : a = 0
  · have HE : Hid (fits a t = (t == 0)) := if_pos h
    have h1 := u8_eq0 t
    rw [show (a == 0) = true from by rw [h]; rfl] at h0
    clear h
    go_enter Tryz.func39, Tryz.ntmps39
    go_wp2
    go_ret
    exact ⟨by rw [HE.out, ← h1] <;> rfl, rfl⟩
  · have HE : Hid (fits a t = (t &&& a != 0)) := if_neg h
    have h1 := u8_bits t a
    rw [show (a == 0) = false from beq_eq_false_iff_ne.2 h] at h0
    clear h
    go_enter Tryz.func39, Tryz.ntmps39
    go_wp2
    go_ret
    exact ⟨by rw [HE.out, ← h1] <;> rfl, rfl⟩
set_option maxHeartbeats 8000000 in
set_option maxRecDepth 100000 in
theorem valid_any (c : Conf) (w : World) : Calls Tryz.prog 28 #[.agg #[Value.int .u16 c.mru.toNat, .bool c.ha, .int .u32 c.accm.toNat, .int .u8 c.auth.toNat, .int .u8 c.takes.toNat, .int .u8 c.can.toNat, .bool c.mg, .bool c.pfc, .bool c.acfc, .int .i64 c.mn]] w fun e w' => e = .returned (.bool (mayC c)) ∧ Below w.heap.size w w' := by
  obtain ⟨W, hW, HW⟩ := boxC w c
  obtain ⟨c0, c1, c2, c3, c4, c5, c6, c7, c8, c9⟩ := HW.out.1.all
  have HB := Lib.hid HW.out.2.1
  have HF := Lib.hid (fun w => takesFit_any c.auth c.takes w)
  have h1 := u16_eq0 c.mru
  have h2 := u16_ge c.mru
  have h4 := u32_eq0 c.accm
  have h5 := u8_le c.auth 2 2 rfl
  have h6 := u8_le c.takes 3 3 rfl
  have h7 := u8_le c.can 3 3 rfl
  obtain ⟨t8, h8⟩ : ∃ b, decide (1 ≤ c.mn) = b := ⟨_, rfl⟩
  obtain ⟨t9, h9⟩ : ∃ b, decide (c.mn ≤ 10) = b := ⟨_, rfl⟩
  have HV : Hid (mayC c = ((c.mru == 0 || decide (64 ≤ c.mru)) && (c.ha || c.accm == 0) && decide (c.auth ≤ 2) && decide (c.takes ≤ 3) && decide (c.can ≤ 3) && fits c.auth c.takes && t8 && t9)) := by show _ = _; rw [← h8, ← h9]; rfl
  generalize (c.mru == 0) = t1 at *
  generalize decide (64 ≤ c.mru) = t2 at *
  generalize c.ha = t3 at *
  generalize (c.accm == 0) = t4 at *
  generalize decide (c.auth ≤ 2) = t5 at *
  generalize decide (c.takes ≤ 3) = t6 at *
  generalize decide (c.can ≤ 3) = t7 at *
  generalize fits c.auth c.takes = f at *
  clear HW
  cases t1
  · cases t2
    · go_enter Tryz.func28, Tryz.ntmps28
      go_wp2
      go_ret
      exact ⟨by rw [HV.out] <;> rfl, HB.out⟩
    · cases t3
      · cases t4
        · go_enter Tryz.func28, Tryz.ntmps28
          go_wp2
          go_ret
          exact ⟨by rw [HV.out] <;> rfl, HB.out⟩
        · cases t5
          · go_enter Tryz.func28, Tryz.ntmps28
            go_wp2
            go_ret
            exact ⟨by rw [HV.out] <;> rfl, HB.out⟩
          · cases t6
            · go_enter Tryz.func28, Tryz.ntmps28
              go_wp2
              go_ret
              exact ⟨by rw [HV.out] <;> rfl, HB.out⟩
            · cases t7
              · go_enter Tryz.func28, Tryz.ntmps28
                go_wp2
                go_ret
                exact ⟨by rw [HV.out] <;> rfl, HB.out⟩
              · cases f
                · go_enter Tryz.func28, Tryz.ntmps28
                  go_wp2_with fail
                  refine (HF.out _).mono ?_
                  rintro e _ ⟨rfl, rfl⟩
                  go_wp2
                  go_ret
                  exact ⟨by rw [HV.out] <;> rfl, HB.out⟩
                · cases t8
                  · go_enter Tryz.func28, Tryz.ntmps28
                    go_wp2_with fail
                    refine (HF.out _).mono ?_
                    rintro e _ ⟨rfl, rfl⟩
                    go_wp2
                    go_ret
                    exact ⟨by rw [HV.out] <;> rfl, HB.out⟩
                  · cases t9
                    · go_enter Tryz.func28, Tryz.ntmps28
                      go_wp2_with fail
                      refine (HF.out _).mono ?_
                      rintro e _ ⟨rfl, rfl⟩
                      go_wp2
                      go_ret
                      exact ⟨by rw [HV.out] <;> rfl, HB.out⟩
                    · go_enter Tryz.func28, Tryz.ntmps28
                      go_wp2_with fail
                      refine (HF.out _).mono ?_
                      rintro e _ ⟨rfl, rfl⟩
                      go_wp2
                      go_ret
                      exact ⟨by rw [HV.out] <;> rfl, HB.out⟩
      · cases t5
        · go_enter Tryz.func28, Tryz.ntmps28
          go_wp2
          go_ret
          exact ⟨by rw [HV.out] <;> rfl, HB.out⟩
        · cases t6
          · go_enter Tryz.func28, Tryz.ntmps28
            go_wp2
            go_ret
            exact ⟨by rw [HV.out] <;> rfl, HB.out⟩
          · cases t7
            · go_enter Tryz.func28, Tryz.ntmps28
              go_wp2
              go_ret
              exact ⟨by rw [HV.out] <;> rfl, HB.out⟩
            · cases f
              · go_enter Tryz.func28, Tryz.ntmps28
                go_wp2_with fail
                refine (HF.out _).mono ?_
                rintro e _ ⟨rfl, rfl⟩
                go_wp2
                go_ret
                exact ⟨by rw [HV.out] <;> rfl, HB.out⟩
              · cases t8
                · go_enter Tryz.func28, Tryz.ntmps28
                  go_wp2_with fail
                  refine (HF.out _).mono ?_
                  rintro e _ ⟨rfl, rfl⟩
                  go_wp2
                  go_ret
                  exact ⟨by rw [HV.out] <;> rfl, HB.out⟩
                · cases t9
                  · go_enter Tryz.func28, Tryz.ntmps28
                    go_wp2_with fail
                    refine (HF.out _).mono ?_
                    rintro e _ ⟨rfl, rfl⟩
                    go_wp2
                    go_ret
                    exact ⟨by rw [HV.out] <;> rfl, HB.out⟩
                  · go_enter Tryz.func28, Tryz.ntmps28
                    go_wp2_with fail
                    refine (HF.out _).mono ?_
                    rintro e _ ⟨rfl, rfl⟩
                    go_wp2
                    go_ret
                    exact ⟨by rw [HV.out] <;> rfl, HB.out⟩
  · cases t3
    · cases t4
      · go_enter Tryz.func28, Tryz.ntmps28
        go_wp2
        go_ret
        exact ⟨by rw [HV.out] <;> rfl, HB.out⟩
      · cases t5
        · go_enter Tryz.func28, Tryz.ntmps28
          go_wp2
          go_ret
          exact ⟨by rw [HV.out] <;> rfl, HB.out⟩
        · cases t6
          · go_enter Tryz.func28, Tryz.ntmps28
            go_wp2
            go_ret
            exact ⟨by rw [HV.out] <;> rfl, HB.out⟩
          · cases t7
            · go_enter Tryz.func28, Tryz.ntmps28
              go_wp2
              go_ret
              exact ⟨by rw [HV.out] <;> rfl, HB.out⟩
            · cases f
              · go_enter Tryz.func28, Tryz.ntmps28
                go_wp2_with fail
                refine (HF.out _).mono ?_
                rintro e _ ⟨rfl, rfl⟩
                go_wp2
                go_ret
                exact ⟨by rw [HV.out] <;> rfl, HB.out⟩
              · cases t8
                · go_enter Tryz.func28, Tryz.ntmps28
                  go_wp2_with fail
                  refine (HF.out _).mono ?_
                  rintro e _ ⟨rfl, rfl⟩
                  go_wp2
                  go_ret
                  exact ⟨by rw [HV.out] <;> rfl, HB.out⟩
                · cases t9
                  · go_enter Tryz.func28, Tryz.ntmps28
                    go_wp2_with fail
                    refine (HF.out _).mono ?_
                    rintro e _ ⟨rfl, rfl⟩
                    go_wp2
                    go_ret
                    exact ⟨by rw [HV.out] <;> rfl, HB.out⟩
                  · go_enter Tryz.func28, Tryz.ntmps28
                    go_wp2_with fail
                    refine (HF.out _).mono ?_
                    rintro e _ ⟨rfl, rfl⟩
                    go_wp2
                    go_ret
                    exact ⟨by rw [HV.out] <;> rfl, HB.out⟩
    · cases t5
      · go_enter Tryz.func28, Tryz.ntmps28
        go_wp2
        go_ret
        exact ⟨by rw [HV.out] <;> rfl, HB.out⟩
      · cases t6
        · go_enter Tryz.func28, Tryz.ntmps28
          go_wp2
          go_ret
          exact ⟨by rw [HV.out] <;> rfl, HB.out⟩
        · cases t7
          · go_enter Tryz.func28, Tryz.ntmps28
            go_wp2
            go_ret
            exact ⟨by rw [HV.out] <;> rfl, HB.out⟩
          · cases f
            · go_enter Tryz.func28, Tryz.ntmps28
              go_wp2_with fail
              refine (HF.out _).mono ?_
              rintro e _ ⟨rfl, rfl⟩
              go_wp2
              go_ret
              exact ⟨by rw [HV.out] <;> rfl, HB.out⟩
            · cases t8
              · go_enter Tryz.func28, Tryz.ntmps28
                go_wp2_with fail
                refine (HF.out _).mono ?_
                rintro e _ ⟨rfl, rfl⟩
                go_wp2
                go_ret
                exact ⟨by rw [HV.out] <;> rfl, HB.out⟩
              · cases t9
                · go_enter Tryz.func28, Tryz.ntmps28
                  go_wp2_with fail
                  refine (HF.out _).mono ?_
                  rintro e _ ⟨rfl, rfl⟩
                  go_wp2
                  go_ret
                  exact ⟨by rw [HV.out] <;> rfl, HB.out⟩
                · go_enter Tryz.func28, Tryz.ntmps28
                  go_wp2_with fail
                  refine (HF.out _).mono ?_
                  rintro e _ ⟨rfl, rfl⟩
                  go_wp2
                  go_ret
                  exact ⟨by rw [HV.out] <;> rfl, HB.out⟩
def NewQ (p : Po) (w : World) (e : Ending) (w' : World) : Prop := ∃ g, e = .returned (.tuple #[.pointer (some ⟨g, 0, none⟩), .int .i64 0]) ∧ w.heap.size ≤ g ∧ PAt w' g p ∧ Below w.heap.size w w'
end Go.Proofs.YtpppggicihfbgaaGreat.Pol

/- Contracts of layer 16's can and agreed. -/
namespace Go.Proofs.YtpppggicihfbgaaGreat.Pol
open Go.RowKit Go.Proofs.YtpppggicihfbgaaGreat.Oct Go.Proofs.YtpppggicihfbgaaGreat.Row Go.Proofs.YtpppggicihfbgaaGreat.Mem Go.Proofs.YtpppggicihfbgaaGreat.Opt Go.Proofs.YtpppggicihfbgaaGreat.Lco

def canB (c d : Conf) : Bool := d.auth == 0 || (c.can != 0 && (c.can == 3 || d.takes &&& c.can != 0))
theorem eq_u8 (a k : UInt8) {z : Int} (h : z = (k.toNat : Int)) : ((a.toNat : Int) == z) = (a == k) := by
  rw [h, Bool.eq_iff_iff, beq_iff_eq, beq_iff_eq]
  exact ⟨fun e => UInt8.toNat_inj.1 (by omega), fun e => by rw [e]⟩
theorem ne_u8 (a k : UInt8) {z : Int} (h : z = (k.toNat : Int)) : ((a.toNat : Int) != z) = (a != k) := by rw [bne, eq_u8 a k h]; rfl
theorem ne_u16 (a : UInt16) : ((a.toNat : Int) != 0) = (a != 0) := by
  rw [Bool.eq_iff_iff, bne_iff_ne, bne_iff_ne]
  exact ⟨fun e h => e (by rw [h]; rfl), fun e h => e (UInt16.toNat_inj.1 (by show a.toNat = 0; omega))⟩
theorem boxCD (w : World) (c d : Conf) : ∃ W, (w.alloc (.cells (cv c).toArray 25)).alloc (.cells (cv d).toArray 25) = W ∧ Hid (CAt W w.heap.size c ∧ CAt W (w.heap.size + 1) d ∧ Below w.heap.size w W ∧ W.heap.size = w.heap.size + 2) := by
  refine ⟨_, rfl, (cat_new w c).callee ((Below.refl _ _).alloc (Nat.le_refl _) _), ?_, ((Below.refl w.heap.size w).alloc (Nat.le_refl _) _).alloc (by rw [World.size_alloc]; exact Nat.le_succ _) _, by rw [World.size_alloc, World.size_alloc]⟩
  have := cat_new (w.alloc (.cells (cv c).toArray 25)) d
  rw [World.size_alloc] at this
  exact this
set_option maxHeartbeats 2000000 in
set_option maxRecDepth 100000 in
theorem can_any (c d : Conf) (w : World) : Calls Tryz.prog 4 #[.agg #[Value.int .u16 c.mru.toNat, .bool c.ha, .int .u32 c.accm.toNat, .int .u8 c.auth.toNat, .int .u8 c.takes.toNat, .int .u8 c.can.toNat, .bool c.mg, .bool c.pfc, .bool c.acfc, .int .i64 c.mn], .agg #[Value.int .u16 d.mru.toNat, .bool d.ha, .int .u32 d.accm.toNat, .int .u8 d.auth.toNat, .int .u8 d.takes.toNat, .int .u8 d.can.toNat, .bool d.mg, .bool d.pfc, .bool d.acfc, .int .i64 d.mn]] w fun e w' => e = .returned (.bool (canB c d)) ∧ Below w.heap.size w w' := by
  obtain ⟨W, hW, HW⟩ := boxCD w c d
  have HB := Lib.hid HW.out.2.2.1
  obtain ⟨c0, c1, c2, c3, c4, c5, c6, c7, c8, c9⟩ := HW.out.1.all
  obtain ⟨d0, d1, d2, d3, d4, d5, d6, d7, d8, d9⟩ := HW.out.2.1.all
  have e1 := eq_u8 d.auth 0 (z := 0) rfl
  have e2 := eq_u8 c.can 0 (z := 0) rfl
  have e3 := eq_u8 c.can 3 (z := 3) rfl
  have e4 := u8_bits d.takes c.can
  have HE : Hid (canB c d = (d.auth == 0 || (!(c.can == 0) && (c.can == 3 || d.takes &&& c.can != 0)))) := rfl
  clear HW
  rw [HE.out]
  clear HE
  generalize (d.auth == 0) = b1 at *
  generalize (c.can == 0) = b2 at *
  generalize (c.can == 3) = b3 at *
  generalize (d.takes &&& c.can != 0) = b4 at *
  cases b1
  · cases b2
    · cases b3
      · go_enter Tryz.func4, Tryz.ntmps4
        go_wp2
        go_ret
        exact ⟨by cases b4 <;> rfl, by first | exact HB.out | (subst hW; exact HB.out)⟩
      · go_enter Tryz.func4, Tryz.ntmps4
        go_wp2
        go_ret
        exact ⟨rfl, by first | exact HB.out | (subst hW; exact HB.out)⟩
    · go_enter Tryz.func4, Tryz.ntmps4
      go_wp2
      go_ret
      exact ⟨rfl, by first | exact HB.out | (subst hW; exact HB.out)⟩
  · go_enter Tryz.func4, Tryz.ntmps4
    go_wp2
    go_ret
    exact ⟨rfl, by first | exact HB.out | (subst hW; exact HB.out)⟩
def fin (c : Conf) (au : UInt8) (mag : UInt32) : Lcp := ⟨c.mru != 0, c.mru, c.ha, c.accm, au, c.mg, mag, c.pfc, c.acfc⟩
def Agr (c d : Conf) (au : UInt8) : Prop := (c.auth = 0 ∧ au = 0) ∨ (c.auth ≠ 0 ∧ au = 2 ∧ (c.takes &&& 2 != 0) = true ∧ (d.can &&& 2 != 0) = true) ∨ (c.auth ≠ 0 ∧ au = 1 ∧ (c.takes &&& 1 != 0) = true ∧ (d.can &&& 1 != 0) = true)
theorem boxXCD (w : World) (x : Lcp) (c d : Conf) : ∃ W, ((w.alloc (.cells (lv x).toArray 42)).alloc (.cells (cv c).toArray 25)).alloc (.cells (cv d).toArray 25) = W ∧ Hid (Blk W w.heap.size (lv x) 42 ∧ CAt W (w.heap.size + 1) c ∧ CAt W (w.heap.size + 1 + 1) d ∧ Below w.heap.size w W) := by
  refine ⟨_, rfl, ((blk_new w (lv x) _).alloc _).alloc _, ?_, ?_, (((Below.refl w.heap.size w).alloc (Nat.le_refl _) _).alloc (by rw [World.size_alloc]; exact Nat.le_succ _) _).alloc (by rw [World.size_alloc, World.size_alloc]; omega) _⟩
  · have := (cat_new (w.alloc (.cells (lv x).toArray 42)) c).callee ((Below.refl _ _).alloc (Nat.le_refl _) (.cells (cv d).toArray 25))
    rw [World.size_alloc] at this
    exact this
  · have := cat_new ((w.alloc (.cells (lv x).toArray 42)).alloc (.cells (cv c).toArray 25)) d
    rw [World.size_alloc, World.size_alloc] at this
    exact this
set_option maxHeartbeats 4000000 in
set_option maxRecDepth 100000 in
theorem agreed_any (c d : Conf) (au : UInt8) (mag : UInt32) (h : Agr c d au) (w : World) : Calls Tryz.prog 14 #[.agg #[Value.bool (c.mru != 0), .int .u16 c.mru.toNat, .bool c.ha, .int .u32 c.accm.toNat, .int .u8 au.toNat, .bool c.mg, .int .u32 mag.toNat, .bool c.pfc, .bool c.acfc], .agg #[Value.int .u16 c.mru.toNat, .bool c.ha, .int .u32 c.accm.toNat, .int .u8 c.auth.toNat, .int .u8 c.takes.toNat, .int .u8 c.can.toNat, .bool c.mg, .bool c.pfc, .bool c.acfc, .int .i64 c.mn], .agg #[Value.int .u16 d.mru.toNat, .bool d.ha, .int .u32 d.accm.toNat, .int .u8 d.auth.toNat, .int .u8 d.takes.toNat, .int .u8 d.can.toNat, .bool d.mg, .bool d.pfc, .bool d.acfc, .int .i64 d.mn]] w fun e w' => e = .returned (.bool true) ∧ Below w.heap.size w w' := by
  obtain ⟨W, hW, HW⟩ := boxXCD w (fin c au mag) c d
  have HB := Lib.hid HW.out.2.2.2
  obtain ⟨c0, c1, c2, c3, c4, c5, c6, c7, c8, c9⟩ := HW.out.2.1.all
  obtain ⟨d0, d1, d2, d3, d4, d5, d6, d7, d8, d9⟩ := HW.out.2.2.1.all
  have x0 : W.cell? ⟨w.heap.size, 0, none⟩ = some (.bool (c.mru != 0)) := HW.out.1.at_ 0
  have x1 : W.cell? ⟨w.heap.size, 1, none⟩ = some (.int .u16 c.mru.toNat) := HW.out.1.at_ 1
  have x2 : W.cell? ⟨w.heap.size, 2, none⟩ = some (.bool c.ha) := HW.out.1.at_ 2
  have x3 : W.cell? ⟨w.heap.size, 3, none⟩ = some (.int .u32 c.accm.toNat) := HW.out.1.at_ 3
  have x4 : W.cell? ⟨w.heap.size, 4, none⟩ = some (.int .u8 au.toNat) := HW.out.1.at_ 4
  have x5 : W.cell? ⟨w.heap.size, 5, none⟩ = some (.bool c.mg) := HW.out.1.at_ 5
  have x7 : W.cell? ⟨w.heap.size, 7, none⟩ = some (.bool c.pfc) := HW.out.1.at_ 7
  have x8 : W.cell? ⟨w.heap.size, 8, none⟩ = some (.bool c.acfc) := HW.out.1.at_ 8
  have hw : W = ((w.alloc (.cells #[.bool (c.mru != 0), .int .u16 c.mru.toNat, .bool c.ha, .int .u32 c.accm.toNat, .int .u8 au.toNat, .bool c.mg, .int .u32 mag.toNat, .bool c.pfc, .bool c.acfc] 42)).alloc (.cells #[Value.int .u16 c.mru.toNat, .bool c.ha, .int .u32 c.accm.toNat, .int .u8 c.auth.toNat, .int .u8 c.takes.toNat, .int .u8 c.can.toNat, .bool c.mg, .bool c.pfc, .bool c.acfc, .int .i64 c.mn] 25)).alloc (.cells #[Value.int .u16 d.mru.toNat, .bool d.ha, .int .u32 d.accm.toNat, .int .u8 d.auth.toNat, .int .u8 d.takes.toNat, .int .u8 d.can.toNat, .bool d.mg, .bool d.pfc, .bool d.acfc, .int .i64 d.mn] 25) := hW.symm
  have e0 := ne_u16 c.mru
  clear HW hW
  have f1 : ∀ b : Bool, (b == b) = true := fun b => by simp
  have f2 : ∀ b : Bool, (b != b) = false := fun b => by simp
  have f3 : ∀ z : Int, (z != z) = false := fun z => by simp
  generalize (c.mru != 0) = hm at *
  rcases h with ⟨h1, h2⟩ | ⟨h1, h2, h3, h4⟩ | ⟨h1, h2, h3, h4⟩
  · have e1 : ((c.auth.toNat : Int) == 0) = true := by rw [eq_u8 c.auth 0 (z := 0) rfl, h1]; rfl
    have e2 : ((au.toNat : Int) == 0) = true := by rw [eq_u8 au 0 (z := 0) rfl, h2]; rfl
    clear h1 h2
    go_enter Tryz.func14, Tryz.ntmps14
    (try rw [← hw])
    go_wp2
    (try go_ret)
    exact ⟨rfl, by first | exact HB.out | (subst hw; exact HB.out)⟩
  · have e1 : ((c.auth.toNat : Int) == 0) = false := by rw [eq_u8 c.auth 0 (z := 0) rfl, beq_eq_false_iff_ne]; exact h1
    have e2 : ((au.toNat : Int) == 2) = true := by rw [eq_u8 au 2 (z := 2) rfl, h2]; rfl
    have e3 : ((au.toNat : Int) != 0) = true := by rw [ne_u8 au 0 (z := 0) rfl, h2]; rfl
    have e4 : (bits .and .u8 (c.takes.toNat : Int) 2 != 0) = true := (u8_bits c.takes 2).trans h3
    have e5 : (bits .and .u8 (d.can.toNat : Int) 2 != 0) = true := (u8_bits d.can 2).trans h4
    clear h1 h2 h3 h4
    go_enter Tryz.func14, Tryz.ntmps14
    (try rw [← hw])
    go_wp2
    (try go_ret)
    exact ⟨rfl, by first | exact HB.out | (subst hw; exact HB.out)⟩
  · have e1 : ((c.auth.toNat : Int) == 0) = false := by rw [eq_u8 c.auth 0 (z := 0) rfl, beq_eq_false_iff_ne]; exact h1
    have e2 : ((au.toNat : Int) == 2) = false := by rw [eq_u8 au 2 (z := 2) rfl, h2]; rfl
    have e3 : ((au.toNat : Int) != 0) = true := by rw [ne_u8 au 0 (z := 0) rfl, h2]; rfl
    have e4 : (bits .and .u8 (c.takes.toNat : Int) 1 != 0) = true := (u8_bits c.takes 1).trans h3
    have e5 : (bits .and .u8 (d.can.toNat : Int) 1 != 0) = true := (u8_bits d.can 1).trans h4
    clear h1 h2 h3 h4
    go_enter Tryz.func14, Tryz.ntmps14
    (try rw [← hw])
    go_wp2
    (try go_ret)
    exact ⟨rfl, by first | exact HB.out | (subst hw; exact HB.out)⟩
end Go.Proofs.YtpppggicihfbgaaGreat.Pol
