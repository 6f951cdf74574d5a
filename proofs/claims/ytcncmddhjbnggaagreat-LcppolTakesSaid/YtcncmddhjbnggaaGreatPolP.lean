/- Contract of New. -/
import Derived.Test.YtcncmddhjbnggaaGreatG3
import Derived.Test.YtcncmddhjbnggaaGreatG6
import Derived.Deep.WholeRow
namespace Go.Proofs.YtcncmddhjbnggaaGreat.Pol
open Go.RowKit Go.Proofs.YtcncmddhjbnggaaGreat.Oct Go.Proofs.YtcncmddhjbnggaaGreat.Row Go.Proofs.YtcncmddhjbnggaaGreat.Mem Go.Proofs.YtcncmddhjbnggaaGreat.Opt Go.Proofs.YtcncmddhjbnggaaGreat.Lco

theorem info_pol : (Tryz.prog.info? 66).map (fun i => (i.zero, i.size)) = some (some (.agg (pv zp).toArray), 40) := by kernel_rfl
theorem zero_pol (w : World) : (zeroValue 66).run Tryz.prog w = .ok (.agg (pv zp).toArray) w := (zero_of_info info_pol).1 w
theorem pv_size (p : Po) : (pv p).toArray.size = 40 := rfl
set_option maxHeartbeats 4000000 in
set_option maxRecDepth 100000 in
theorem new_ok (c : Conf) (m : UInt32) (w : World) (h : mayC c = true) : Calls Tryz.prog 19 #[.agg #[Value.int .u16 c.mru.toNat, .bool c.ha, .int .u32 c.accm.toNat, .int .u8 c.auth.toNat, .int .u8 c.takes.toNat, .int .u8 c.can.toNat, .bool c.mg, .bool c.pfc, .bool c.acfc, .int .i64 c.mn], .int .u32 m.toNat] w (NewQ (newP c m) w) := by
  obtain ⟨W, hW, HW⟩ := boxC w c
  obtain ⟨c0, c1, c2, c3, c4, c5, c6, c7, c8, c9⟩ := HW.out.1.all
  have HB := Lib.hid HW.out.2.1
  have HC := Lib.hid HW.out.1
  have HV : Hid (∀ w, Calls Tryz.prog 45 #[.agg #[Value.int .u16 c.mru.toNat, .bool c.ha, .int .u32 c.accm.toNat, .int .u8 c.auth.toNat, .int .u8 c.takes.toNat, .int .u8 c.can.toNat, .bool c.mg, .bool c.pfc, .bool c.acfc, .int .i64 c.mn]] w fun e w' => e = .returned (.bool true) ∧ Below w.heap.size w w') := fun w => by have := valid_any c w; rw [h] at this; exact this
  have HM := Lib.hid (fun w => made_any c m w)
  have HN := Lib.hid (pol_size (newP c m))
  have HO := Lib.hid (pv_one (newP c m))
  have HE : Hid (∀ W : World, PAt (W.alloc (.cells (pv (newP c m)).toArray 66)) W.heap.size (newP c m)) := fun W => pat_new W _
  have HZ : Hid ((pv zp).toArray.size = (pv (newP c m)).toArray.size) := rfl
  have hz := zero_pol
  generalize (pv zp).toArray = zs at *
  generalize (pv (newP c m)).toArray = cs at *
  clear h HW
  go_enter Tryz.func19, Tryz.ntmps19
  go_wp2_with fail
  refine (HV.out _).mono ?_
  rintro e w1 ⟨rfl, hb1⟩
  have HB1 := Lib.hid (HB.out.trans (hb1.mono HB.out.size))
  obtain ⟨d0, d1, d2, d3, d4, d5, d6, d7, d8, d9⟩ := (HC.out.callee hb1).all
  clear hb1 HV HC
  go_wp2_with fail
  refine (HM.out _).mono ?_
  rintro e w2 ⟨rfl, hb2⟩
  have HB2 := Lib.hid (HB1.out.trans (hb2.mono HB1.out.size))
  clear hb2
  go_wp2_with (refine wpList_store_row rfl 66 _ _ rfl w2.heap.size cs rfl rfl 66 zs (World.alloc_heap_new w2 _) HN.out HZ.out HO.out ?_)
  go_ret2
  rw [World.setRow_alloc_new]
  exact ⟨_, rfl, HB2.out.size, HE.out w2, HB2.out.alloc HB2.out.size _⟩
set_option maxHeartbeats 4000000 in
set_option maxRecDepth 100000 in
theorem new_no (c : Conf) (m : UInt32) (w : World) (h : mayC c = false) : Calls Tryz.prog 19 #[.agg #[Value.int .u16 c.mru.toNat, .bool c.ha, .int .u32 c.accm.toNat, .int .u8 c.auth.toNat, .int .u8 c.takes.toNat, .int .u8 c.can.toNat, .bool c.mg, .bool c.pfc, .bool c.acfc, .int .i64 c.mn], .int .u32 m.toNat] w fun e w' => e = .returned (.tuple #[.pointer none, .int .i64 2]) ∧ Below w.heap.size w w' := by
  obtain ⟨W, hW, HW⟩ := boxC w c
  obtain ⟨c0, c1, c2, c3, c4, c5, c6, c7, c8, c9⟩ := HW.out.1.all
  have HB := Lib.hid HW.out.2.1
  have HV : Hid (∀ w, Calls Tryz.prog 45 #[.agg #[Value.int .u16 c.mru.toNat, .bool c.ha, .int .u32 c.accm.toNat, .int .u8 c.auth.toNat, .int .u8 c.takes.toNat, .int .u8 c.can.toNat, .bool c.mg, .bool c.pfc, .bool c.acfc, .int .i64 c.mn]] w fun e w' => e = .returned (.bool false) ∧ Below w.heap.size w w') := fun w => by have := valid_any c w; rw [h] at this; exact this
  clear h HW
  go_enter Tryz.func19, Tryz.ntmps19
  go_wp2_with fail
  refine (HV.out _).mono ?_
  rintro e w1 ⟨rfl, hb1⟩
  have HB1 := Lib.hid (HB.out.trans (hb1.mono HB.out.size))
  clear hb1 HV
  go_wp2
  go_ret2
  exact ⟨rfl, HB1.out⟩
theorem boxZ (w : World) : ∃ V, w.alloc (.cells #[Value.bool false, .int .u16 0, .bool false, .int .u32 0, .int .u8 0, .bool false, .int .u32 0, .bool false, .bool false] 37) = V ∧ Hid (LAt V w.heap.size lz ∧ Below w.heap.size w V ∧ V.heap.size = w.heap.size + 1) :=
  ⟨_, rfl, lat_new w lz, (Below.refl w.heap.size w).alloc (Nat.le_refl _) _, by simp⟩
set_option maxHeartbeats 1000000 in
set_option maxRecDepth 100000 in
/-- Peer. -/
theorem peer_any (g : Nat) (p : Po) (w : World) (h : PAt w g p) : Calls Tryz.prog 14 #[.pointer (some ⟨g, 0, none⟩)] w (BetQ p.peer w) := by
  have HP := Lib.hid h
  clear h
  obtain ⟨V, hV, HV⟩ := boxZ w
  have HQ : Hid (PAt V g p) := HP.out.callee HV.out.2.1
  obtain ⟨p28, p29, p30, p31, p32, p33, p34, p35, p36, _, _, _, _, _, _, _, _, _⟩ := HQ.out.peers
  have HN := Lib.hid (lcp_size p.peer)
  have HZ := Lib.hid HV.out.1
  have HB := Lib.hid HV.out.2.1
  go_enter Tryz.func14, Tryz.ntmps14
  go_wp2_with (refine wpList_store_row rfl 37 _ _ rfl w.heap.size (lv p.peer).toArray rfl rfl 37 _ HZ.out HN.out rfl (lv_one _) ?_)
  (try simp only [Exit.inBlock, Exit.then])
  refine bodyPost_ret (bet_res rfl _ p.peer HZ.out rfl) rfl ?_
  exact bet_q p.peer HB.out (Nat.le_refl _)
end Go.Proofs.YtcncmddhjbnggaaGreat.Pol
