/- Put together: PolP, PolAa, PolBa, PolDa, PolEa, PolFa, PolQa, PolGa. -/
import Derived.Test.YtpppggicihfbgaaGreatGPolN
import Derived.Test.YtpppggicihfbgaaGreatGPolG
import Derived.Deep.WholeRow
import Derived.Test.YtpppggicihfbgaaGreatGLcoA
import Derived.Test.YtpppggicihfbgaaGreatGLcoH
import Derived.Test.YtpppggicihfbgaaGreatGLcoK
import Derived.Deep.RegionHeld3
import Derived.OrdersHeld
import Derived.Test.YtpppggicihfbgaaGreatGLcoC
import Derived.Test.YtpppggicihfbgaaGreatPolCa
import Derived.Test.YtpppggicihfbgaaGreatGPolQ
import Derived.Test.YtpppggicihfbgaaGreatGOptA

/- Contract of New. -/
namespace Go.Proofs.YtpppggicihfbgaaGreat.Pol
open Go.RowKit Go.Proofs.YtpppggicihfbgaaGreat.Oct Go.Proofs.YtpppggicihfbgaaGreat.Row Go.Proofs.YtpppggicihfbgaaGreat.Mem Go.Proofs.YtpppggicihfbgaaGreat.Opt Go.Proofs.YtpppggicihfbgaaGreat.Lco

set_option maxRecDepth 100000 in
theorem info_pol : (Tryz.prog.info? 78).map (fun i => (i.zero, i.size)) = some (some (.agg (pv zp).toArray), 40) := by kernel_rfl
theorem zero_pol (w : World) : (zeroValue 78).run Tryz.prog w = .ok (.agg (pv zp).toArray) w := (zero_of_info info_pol).1 w
set_option maxHeartbeats 4000000 in
set_option maxRecDepth 100000 in
theorem new_ok (c : Conf) (m : UInt32) (w : World) (h : mayC c = true) : Calls Tryz.prog 19 #[.agg #[Value.int .u16 c.mru.toNat, .bool c.ha, .int .u32 c.accm.toNat, .int .u8 c.auth.toNat, .int .u8 c.takes.toNat, .int .u8 c.can.toNat, .bool c.mg, .bool c.pfc, .bool c.acfc, .int .i64 c.mn], .int .u32 m.toNat] w (NewQ (newP c m) w) := by
  obtain ⟨W, hW, HW⟩ := boxC w c
  obtain ⟨c0, c1, c2, c3, c4, c5, c6, c7, c8, c9⟩ := HW.out.1.all
  have HB := Lib.hid HW.out.2.1
  have HC := Lib.hid HW.out.1
  have HV : Hid (∀ w, Calls Tryz.prog 28 #[.agg #[Value.int .u16 c.mru.toNat, .bool c.ha, .int .u32 c.accm.toNat, .int .u8 c.auth.toNat, .int .u8 c.takes.toNat, .int .u8 c.can.toNat, .bool c.mg, .bool c.pfc, .bool c.acfc, .int .i64 c.mn]] w fun e w' => e = .returned (.bool true) ∧ Below w.heap.size w w') := fun w => by have := valid_any c w; rw [h] at this; exact this
  have HM := Lib.hid (fun w => made_any c m w)
  have HN := Lib.hid (pol_size (newP c m))
  have HO := Lib.hid (pv_one (newP c m))
  have HE : Hid (∀ W : World, PAt (W.alloc (.cells (pv (newP c m)).toArray 78)) W.heap.size (newP c m)) := fun W => pat_new W _
  have HZ : Hid ((pv zp).toArray.size = (pv (newP c m)).toArray.size) := rfl
  have hz := zero_pol
  generalize (pv zp).toArray = zs at *
  generalize (pv (newP c m)).toArray = cs at *
  clear h HW
  go_enter Tryz.func19, Tryz.ntmps19
  go_wp2_with fail
  refine (HV.out _).mono ?_
  rintro e w1 ⟨rfl, hb1⟩
  have HB1 := Lib.hid (HB.out.trans (hb1.mono HB.out.size))
  obtain ⟨d0, d1, d2, d3, d4, d5, d6, d7, d8, d9⟩ := (HC.out.callee hb1).all
  clear hb1 HV HC
  go_wp2_with fail
  refine (HM.out _).mono ?_
  rintro e w2 ⟨rfl, hb2⟩
  have HB2 := Lib.hid (HB1.out.trans (hb2.mono HB1.out.size))
  clear hb2
  go_wp2_with (refine wpList_store_row rfl 78 _ _ rfl w2.heap.size cs rfl rfl 78 zs (World.alloc_heap_new w2 _) HN.out HZ.out HO.out ?_)
  go_ret2
  rw [World.setRow_alloc_new]
  exact ⟨_, rfl, HB2.out.size, HE.out w2, HB2.out.alloc HB2.out.size _⟩
set_option maxHeartbeats 4000000 in
set_option maxRecDepth 100000 in
theorem new_no (c : Conf) (m : UInt32) (w : World) (h : mayC c = false) : Calls Tryz.prog 19 #[.agg #[Value.int .u16 c.mru.toNat, .bool c.ha, .int .u32 c.accm.toNat, .int .u8 c.auth.toNat, .int .u8 c.takes.toNat, .int .u8 c.can.toNat, .bool c.mg, .bool c.pfc, .bool c.acfc, .int .i64 c.mn], .int .u32 m.toNat] w fun e w' => e = .returned (.tuple #[.pointer none, .int .i64 2]) ∧ Below w.heap.size w w' := by
  obtain ⟨W, hW, HW⟩ := boxC w c
  obtain ⟨c0, c1, c2, c3, c4, c5, c6, c7, c8, c9⟩ := HW.out.1.all
  have HB := Lib.hid HW.out.2.1
  have HV : Hid (∀ w, Calls Tryz.prog 28 #[.agg #[Value.int .u16 c.mru.toNat, .bool c.ha, .int .u32 c.accm.toNat, .int .u8 c.auth.toNat, .int .u8 c.takes.toNat, .int .u8 c.can.toNat, .bool c.mg, .bool c.pfc, .bool c.acfc, .int .i64 c.mn]] w fun e w' => e = .returned (.bool false) ∧ Below w.heap.size w w') := fun w => by have := valid_any c w; rw [h] at this; exact this
  clear h HW
  go_enter Tryz.func19, Tryz.ntmps19
  go_wp2_with fail
  refine (HV.out _).mono ?_
  rintro e w1 ⟨rfl, hb1⟩
  have HB1 := Lib.hid (HB.out.trans (hb1.mono HB.out.size))
  clear hb1 HV
  go_wp2
  go_ret2
  exact ⟨rfl, HB1.out⟩
theorem boxZ (w : World) : ∃ V, w.alloc (.cells #[Value.bool false, .int .u16 0, .bool false, .int .u32 0, .int .u8 0, .bool false, .int .u32 0, .bool false, .bool false] 42) = V ∧ Hid (LAt V w.heap.size lz ∧ Below w.heap.size w V ∧ V.heap.size = w.heap.size + 1) :=
  ⟨_, rfl, lat_new w lz, (Below.refl w.heap.size w).alloc (Nat.le_refl _) _, by simp⟩
set_option maxHeartbeats 1000000 in
set_option maxRecDepth 100000 in
set_option maxRecDepth 100000 in
theorem peer_any (g : Nat) (p : Po) (w : World) (h : PAt w g p) : Calls Tryz.prog 12 #[.pointer (some ⟨g, 0, none⟩)] w (BetQ p.peer w) := by
  have HP := Lib.hid h
  clear h
  obtain ⟨V, hV, HV⟩ := boxZ w
  have HQ : Hid (PAt V g p) := HP.out.callee HV.out.2.1
  obtain ⟨p28, p29, p30, p31, p32, p33, p34, p35, p36, _, _, _, _, _, _, _, _, _⟩ := HQ.out.peers
  have HN := Lib.hid (lcp_size p.peer)
  have HZ := Lib.hid HV.out.1
  have HB := Lib.hid HV.out.2.1
  go_enter Tryz.func12, Tryz.ntmps12
  go_wp2_with (refine wpList_store_row rfl 42 _ _ rfl w.heap.size (lv p.peer).toArray rfl rfl 42 _ HZ.out HN.out rfl (lv_one _) ?_)
  (try simp only [Exit.inBlock, Exit.then])
  refine bodyPost_ret (bet_res rfl _ p.peer HZ.out rfl) rfl ?_
  exact bet_q p.peer HB.out (Nat.le_refl _)
end Go.Proofs.YtpppggicihfbgaaGreat.Pol

/- Contracts of the program's getters, Request, Copy, Reset. -/
set_option linter.unusedSimpArgs false
set_option linter.unusedVariables false
namespace Go.Proofs.YtpppggicihfbgaaGreat.Pol
open List (getElem_toArray getElem_cons_succ getElem_cons_zero setIfInBounds_toArray set_cons_zero set_cons_succ)
open Go.RowKit Go.Proofs.YtpppggicihfbgaaGreat.Oct Go.Proofs.YtpppggicihfbgaaGreat.Row Go.Proofs.YtpppggicihfbgaaGreat.Mem Go.Proofs.YtpppggicihfbgaaGreat.Opt Go.Proofs.YtpppggicihfbgaaGreat.Lco

set_option maxHeartbeats 8000000 in
set_option maxRecDepth 100000 in
theorem wish_any (g : Nat) (p : Po) (w : World) (h : PAt w g p) : Calls Tryz.prog 121 #[.pointer (some ⟨g, 0, none⟩)] w (BetQ p.w w) := by
  have HN := Lib.hid h.lt
  obtain ⟨W, hW, HV⟩ := boxZ w
  have HP : Hid (PAt W g p) := h.callee HV.out.2.1
  have HZ := Lib.hid HV.out.1
  have HB := Lib.hid HV.out.2.1
  obtain ⟨p0, p1, p2, p3, p4, p5, p6, p7, p8⟩ := HP.out.wish
  have z0 : W.drew.cell? ⟨w.heap.size, 0, none⟩ = some (Value.bool false) := HZ.out.c 0
  have z1 : W.drew.cell? ⟨w.heap.size, 1, none⟩ = some (.int .u16 0) := HZ.out.c 1
  have z2 : W.drew.cell? ⟨w.heap.size, 2, none⟩ = some (.bool false) := HZ.out.c 2
  have z3 : W.drew.cell? ⟨w.heap.size, 3, none⟩ = some (.int .u32 0) := HZ.out.c 3
  have z4 : W.drew.cell? ⟨w.heap.size, 4, none⟩ = some (.int .u8 0) := HZ.out.c 4
  have z5 : W.drew.cell? ⟨w.heap.size, 5, none⟩ = some (.bool false) := HZ.out.c 5
  have z6 : W.drew.cell? ⟨w.heap.size, 6, none⟩ = some (.int .u32 0) := HZ.out.c 6
  have z7 : W.drew.cell? ⟨w.heap.size, 7, none⟩ = some (.bool false) := HZ.out.c 7
  have z8 : W.drew.cell? ⟨w.heap.size, 8, none⟩ = some (.bool false) := HZ.out.c 8
  have f0 : W.drew.frozen? ⟨w.heap.size, 0, none⟩ = false := HZ.out.f 0
  have f1 : W.drew.frozen? ⟨w.heap.size, 1, none⟩ = false := HZ.out.f 1
  have f2 : W.drew.frozen? ⟨w.heap.size, 2, none⟩ = false := HZ.out.f 2
  have f3 : W.drew.frozen? ⟨w.heap.size, 3, none⟩ = false := HZ.out.f 3
  have f4 : W.drew.frozen? ⟨w.heap.size, 4, none⟩ = false := HZ.out.f 4
  have f5 : W.drew.frozen? ⟨w.heap.size, 5, none⟩ = false := HZ.out.f 5
  have f6 : W.drew.frozen? ⟨w.heap.size, 6, none⟩ = false := HZ.out.f 6
  have f7 : W.drew.frozen? ⟨w.heap.size, 7, none⟩ = false := HZ.out.f 7
  have f8 : W.drew.frozen? ⟨w.heap.size, 8, none⟩ = false := HZ.out.f 8
  clear h HV
  go_enter Tryz.func121, Tryz.ntmps121
  go_wp2_with fail
  clear hW
  refine wp_region_held_drew (S := (fun w' => w'.cell? ⟨g, 0, none⟩ = some (Value.bool p.w.hm) ∧ w'.cell? ⟨g, 1, none⟩ = some (.int .u16 p.w.mru.toNat) ∧ w'.cell? ⟨g, 2, none⟩ = some (.bool p.w.ha) ∧ w'.cell? ⟨g, 3, none⟩ = some (.int .u32 p.w.accm.toNat) ∧ w'.cell? ⟨g, 4, none⟩ = some (.int .u8 p.w.auth.toNat) ∧ w'.cell? ⟨g, 5, none⟩ = some (.bool p.w.hg) ∧ w'.cell? ⟨g, 6, none⟩ = some (.int .u32 p.w.magic.toNat) ∧ w'.cell? ⟨g, 7, none⟩ = some (.bool p.w.pfc) ∧ w'.cell? ⟨g, 8, none⟩ = some (.bool p.w.acfc))) (by kernel_rfl) ⟨p0, p1, p2, p3, p4, p5, p6, p7, p8⟩ (fun hHeld => ?_)
  have HPu : Hid (PAt W.drew g p) := HP.out
  have HZu : Hid (LAt W.drew w.heap.size lz) := HZ.out
  have HBu : Hid (Below w.heap.size w W.drew) := HB.out.drew
  clear HP HZ HB p0 p1 p2 p3 p4 p5 p6 p7 p8
  generalize W.drew = U at *
  refine wpAnyH_take (i := 0) (v := ?vv0_1) rfl (by kernel_rfl) (by kernel_rfl) (by kernel_rfl) (fun _ _ _ h => h) (Or.inl ⟨by rfl, ?yy0_1⟩) (by assumption) ?rr0_1
  case yy0_1 => (intro w hSw; (try dsimp only at hSw); obtain ⟨hs0, hs1, hs2, hs3, hs4, hs5, hs6, hs7, hs8⟩ := hSw; (try simp only [getElem_toArray, getElem_cons_succ, getElem_cons_zero, Act.put, setIfInBounds_toArray, set_cons_zero, set_cons_succ]); go_simp; (try (with_reducible rfl)))
  try simp only [getElem_toArray, getElem_cons_succ, getElem_cons_zero, Act.put, setIfInBounds_toArray, set_cons_zero, set_cons_succ]
  refine wpAnyH_take (i := 1) (v := ?vv1_2) rfl (by kernel_rfl) (by kernel_rfl) (by kernel_rfl) (fun _ _ _ h => h) (Or.inl ⟨by rfl, ?yy1_2⟩) (by assumption) ?rr1_2
  case yy1_2 => (intro w hSw; (try dsimp only at hSw); obtain ⟨hs0, hs1, hs2, hs3, hs4, hs5, hs6, hs7, hs8⟩ := hSw; (try simp only [getElem_toArray, getElem_cons_succ, getElem_cons_zero, Act.put, setIfInBounds_toArray, set_cons_zero, set_cons_succ]); go_simp; (try (with_reducible rfl)))
  try simp only [getElem_toArray, getElem_cons_succ, getElem_cons_zero, Act.put, setIfInBounds_toArray, set_cons_zero, set_cons_succ]
  refine wpAnyH_take (i := 2) (v := ?vv2_3) rfl (by kernel_rfl) (by kernel_rfl) (by kernel_rfl) (fun _ _ _ h => h) (Or.inl ⟨by rfl, ?yy2_3⟩) (by assumption) ?rr2_3
  case yy2_3 => (intro w hSw; (try dsimp only at hSw); obtain ⟨hs0, hs1, hs2, hs3, hs4, hs5, hs6, hs7, hs8⟩ := hSw; (try simp only [getElem_toArray, getElem_cons_succ, getElem_cons_zero, Act.put, setIfInBounds_toArray, set_cons_zero, set_cons_succ]); go_simp; (try (with_reducible rfl)))
  try simp only [getElem_toArray, getElem_cons_succ, getElem_cons_zero, Act.put, setIfInBounds_toArray, set_cons_zero, set_cons_succ]
  refine wpAnyH_take (i := 3) (v := ?vv3_4) rfl (by kernel_rfl) (by kernel_rfl) (by kernel_rfl) (fun _ _ _ h => h) (Or.inl ⟨by rfl, ?yy3_4⟩) (by assumption) ?rr3_4
  case yy3_4 => (intro w hSw; (try dsimp only at hSw); obtain ⟨hs0, hs1, hs2, hs3, hs4, hs5, hs6, hs7, hs8⟩ := hSw; (try simp only [getElem_toArray, getElem_cons_succ, getElem_cons_zero, Act.put, setIfInBounds_toArray, set_cons_zero, set_cons_succ]); go_simp; (try (with_reducible rfl)))
  try simp only [getElem_toArray, getElem_cons_succ, getElem_cons_zero, Act.put, setIfInBounds_toArray, set_cons_zero, set_cons_succ]
  refine wpAnyH_take (i := 4) (v := ?vv4_5) rfl (by kernel_rfl) (by kernel_rfl) (by kernel_rfl) (fun _ _ _ h => h) (Or.inl ⟨by rfl, ?yy4_5⟩) (by assumption) ?rr4_5
  case yy4_5 => (intro w hSw; (try dsimp only at hSw); obtain ⟨hs0, hs1, hs2, hs3, hs4, hs5, hs6, hs7, hs8⟩ := hSw; (try simp only [getElem_toArray, getElem_cons_succ, getElem_cons_zero, Act.put, setIfInBounds_toArray, set_cons_zero, set_cons_succ]); go_simp; (try (with_reducible rfl)))
  try simp only [getElem_toArray, getElem_cons_succ, getElem_cons_zero, Act.put, setIfInBounds_toArray, set_cons_zero, set_cons_succ]
  refine wpAnyH_take (i := 5) (v := ?vv5_6) rfl (by kernel_rfl) (by kernel_rfl) (by kernel_rfl) (fun _ _ _ h => h) (Or.inl ⟨by rfl, ?yy5_6⟩) (by assumption) ?rr5_6
  case yy5_6 => (intro w hSw; (try dsimp only at hSw); obtain ⟨hs0, hs1, hs2, hs3, hs4, hs5, hs6, hs7, hs8⟩ := hSw; (try simp only [getElem_toArray, getElem_cons_succ, getElem_cons_zero, Act.put, setIfInBounds_toArray, set_cons_zero, set_cons_succ]); go_simp; (try (with_reducible rfl)))
  try simp only [getElem_toArray, getElem_cons_succ, getElem_cons_zero, Act.put, setIfInBounds_toArray, set_cons_zero, set_cons_succ]
  refine wpAnyH_take (i := 6) (v := ?vv6_7) rfl (by kernel_rfl) (by kernel_rfl) (by kernel_rfl) (fun _ _ _ h => h) (Or.inl ⟨by rfl, ?yy6_7⟩) (by assumption) ?rr6_7
  case yy6_7 => (intro w hSw; (try dsimp only at hSw); obtain ⟨hs0, hs1, hs2, hs3, hs4, hs5, hs6, hs7, hs8⟩ := hSw; (try simp only [getElem_toArray, getElem_cons_succ, getElem_cons_zero, Act.put, setIfInBounds_toArray, set_cons_zero, set_cons_succ]); go_simp; (try (with_reducible rfl)))
  try simp only [getElem_toArray, getElem_cons_succ, getElem_cons_zero, Act.put, setIfInBounds_toArray, set_cons_zero, set_cons_succ]
  refine wpAnyH_take (i := 7) (v := ?vv7_8) rfl (by kernel_rfl) (by kernel_rfl) (by kernel_rfl) (fun _ _ _ h => h) (Or.inl ⟨by rfl, ?yy7_8⟩) (by assumption) ?rr7_8
  case yy7_8 => (intro w hSw; (try dsimp only at hSw); obtain ⟨hs0, hs1, hs2, hs3, hs4, hs5, hs6, hs7, hs8⟩ := hSw; (try simp only [getElem_toArray, getElem_cons_succ, getElem_cons_zero, Act.put, setIfInBounds_toArray, set_cons_zero, set_cons_succ]); go_simp; (try (with_reducible rfl)))
  try simp only [getElem_toArray, getElem_cons_succ, getElem_cons_zero, Act.put, setIfInBounds_toArray, set_cons_zero, set_cons_succ]
  refine wpAnyH_take (i := 8) (v := ?vv8_9) rfl (by kernel_rfl) (by kernel_rfl) (by kernel_rfl) (fun _ _ _ h => h) (Or.inl ⟨by rfl, ?yy8_9⟩) (by assumption) ?rr8_9
  case yy8_9 => (intro w hSw; (try dsimp only at hSw); obtain ⟨hs0, hs1, hs2, hs3, hs4, hs5, hs6, hs7, hs8⟩ := hSw; (try simp only [getElem_toArray, getElem_cons_succ, getElem_cons_zero, Act.put, setIfInBounds_toArray, set_cons_zero, set_cons_succ]); go_simp; (try (with_reducible rfl)))
  try simp only [getElem_toArray, getElem_cons_succ, getElem_cons_zero, Act.put, setIfInBounds_toArray, set_cons_zero, set_cons_succ]
  refine wpAnyH_take (i := 9) (v := ?vv9_10) rfl (by kernel_rfl) (by kernel_rfl) (by kernel_rfl) (fun _ _ _ h => h) (Or.inl ⟨by rfl, ?yy9_10⟩) (by assumption) ?rr9_10
  case yy9_10 => (intro w hSw; (try dsimp only at hSw); obtain ⟨hs0, hs1, hs2, hs3, hs4, hs5, hs6, hs7, hs8⟩ := hSw; (try simp only [getElem_toArray, getElem_cons_succ, getElem_cons_zero, Act.put, setIfInBounds_toArray, set_cons_zero, set_cons_succ]); go_simp; (try (with_reducible rfl)))
  try simp only [getElem_toArray, getElem_cons_succ, getElem_cons_zero, Act.put, setIfInBounds_toArray, set_cons_zero, set_cons_succ]
  refine wpAnyH_take (i := 10) (v := ?vv10_11) rfl (by kernel_rfl) (by kernel_rfl) (by kernel_rfl) (fun _ _ _ h => h) (Or.inl ⟨by rfl, ?yy10_11⟩) (by assumption) ?rr10_11
  case yy10_11 => (intro w hSw; (try dsimp only at hSw); obtain ⟨hs0, hs1, hs2, hs3, hs4, hs5, hs6, hs7, hs8⟩ := hSw; (try simp only [getElem_toArray, getElem_cons_succ, getElem_cons_zero, Act.put, setIfInBounds_toArray, set_cons_zero, set_cons_succ]); go_simp; (try (with_reducible rfl)))
  try simp only [getElem_toArray, getElem_cons_succ, getElem_cons_zero, Act.put, setIfInBounds_toArray, set_cons_zero, set_cons_succ]
  refine wpAnyH_take (i := 11) (v := ?vv11_12) rfl (by kernel_rfl) (by kernel_rfl) (by kernel_rfl) (fun _ _ _ h => h) (Or.inl ⟨by rfl, ?yy11_12⟩) (by assumption) ?rr11_12
  case yy11_12 => (intro w hSw; (try dsimp only at hSw); obtain ⟨hs0, hs1, hs2, hs3, hs4, hs5, hs6, hs7, hs8⟩ := hSw; (try simp only [getElem_toArray, getElem_cons_succ, getElem_cons_zero, Act.put, setIfInBounds_toArray, set_cons_zero, set_cons_succ]); go_simp; (try (with_reducible rfl)))
  try simp only [getElem_toArray, getElem_cons_succ, getElem_cons_zero, Act.put, setIfInBounds_toArray, set_cons_zero, set_cons_succ]
  refine wpAnyH_take (i := 12) (v := ?vv12_13) rfl (by kernel_rfl) (by kernel_rfl) (by kernel_rfl) (fun _ _ _ h => h) (Or.inl ⟨by rfl, ?yy12_13⟩) (by assumption) ?rr12_13
  case yy12_13 => (intro w hSw; (try dsimp only at hSw); obtain ⟨hs0, hs1, hs2, hs3, hs4, hs5, hs6, hs7, hs8⟩ := hSw; (try simp only [getElem_toArray, getElem_cons_succ, getElem_cons_zero, Act.put, setIfInBounds_toArray, set_cons_zero, set_cons_succ]); go_simp; (try (with_reducible rfl)))
  try simp only [getElem_toArray, getElem_cons_succ, getElem_cons_zero, Act.put, setIfInBounds_toArray, set_cons_zero, set_cons_succ]
  refine wpAnyH_take (i := 13) (v := ?vv13_14) rfl (by kernel_rfl) (by kernel_rfl) (by kernel_rfl) (fun _ _ _ h => h) (Or.inl ⟨by rfl, ?yy13_14⟩) (by assumption) ?rr13_14
  case yy13_14 => (intro w hSw; (try dsimp only at hSw); obtain ⟨hs0, hs1, hs2, hs3, hs4, hs5, hs6, hs7, hs8⟩ := hSw; (try simp only [getElem_toArray, getElem_cons_succ, getElem_cons_zero, Act.put, setIfInBounds_toArray, set_cons_zero, set_cons_succ]); go_simp; (try (with_reducible rfl)))
  try simp only [getElem_toArray, getElem_cons_succ, getElem_cons_zero, Act.put, setIfInBounds_toArray, set_cons_zero, set_cons_succ]
  refine wpAnyH_take (i := 14) (v := ?vv14_15) rfl (by kernel_rfl) (by kernel_rfl) (by kernel_rfl) (fun _ _ _ h => h) (Or.inl ⟨by rfl, ?yy14_15⟩) (by assumption) ?rr14_15
  case yy14_15 => (intro w hSw; (try dsimp only at hSw); obtain ⟨hs0, hs1, hs2, hs3, hs4, hs5, hs6, hs7, hs8⟩ := hSw; (try simp only [getElem_toArray, getElem_cons_succ, getElem_cons_zero, Act.put, setIfInBounds_toArray, set_cons_zero, set_cons_succ]); go_simp; (try (with_reducible rfl)))
  try simp only [getElem_toArray, getElem_cons_succ, getElem_cons_zero, Act.put, setIfInBounds_toArray, set_cons_zero, set_cons_succ]
  refine wpAnyH_take (i := 15) (v := ?vv15_16) rfl (by kernel_rfl) (by kernel_rfl) (by kernel_rfl) (fun _ _ _ h => h) (Or.inl ⟨by rfl, ?yy15_16⟩) (by assumption) ?rr15_16
  case yy15_16 => (intro w hSw; (try dsimp only at hSw); obtain ⟨hs0, hs1, hs2, hs3, hs4, hs5, hs6, hs7, hs8⟩ := hSw; (try simp only [getElem_toArray, getElem_cons_succ, getElem_cons_zero, Act.put, setIfInBounds_toArray, set_cons_zero, set_cons_succ]); go_simp; (try (with_reducible rfl)))
  try simp only [getElem_toArray, getElem_cons_succ, getElem_cons_zero, Act.put, setIfInBounds_toArray, set_cons_zero, set_cons_succ]
  refine wpAnyH_take (i := 16) (v := ?vv16_17) rfl (by kernel_rfl) (by kernel_rfl) (by kernel_rfl) (fun _ _ _ h => h) (Or.inl ⟨by rfl, ?yy16_17⟩) (by assumption) ?rr16_17
  case yy16_17 => (intro w hSw; (try dsimp only at hSw); obtain ⟨hs0, hs1, hs2, hs3, hs4, hs5, hs6, hs7, hs8⟩ := hSw; (try simp only [getElem_toArray, getElem_cons_succ, getElem_cons_zero, Act.put, setIfInBounds_toArray, set_cons_zero, set_cons_succ]); go_simp; (try (with_reducible rfl)))
  try simp only [getElem_toArray, getElem_cons_succ, getElem_cons_zero, Act.put, setIfInBounds_toArray, set_cons_zero, set_cons_succ]
  refine wpAnyH_take (i := 17) (v := ?vv17_18) rfl (by kernel_rfl) (by kernel_rfl) (by kernel_rfl) (fun _ _ _ h => h) (Or.inl ⟨by rfl, ?yy17_18⟩) (by assumption) ?rr17_18
  case yy17_18 => (intro w hSw; (try dsimp only at hSw); obtain ⟨hs0, hs1, hs2, hs3, hs4, hs5, hs6, hs7, hs8⟩ := hSw; (try simp only [getElem_toArray, getElem_cons_succ, getElem_cons_zero, Act.put, setIfInBounds_toArray, set_cons_zero, set_cons_succ]); go_simp; (try (with_reducible rfl)))
  try simp only [getElem_toArray, getElem_cons_succ, getElem_cons_zero, Act.put, setIfInBounds_toArray, set_cons_zero, set_cons_succ]
  refine wpAnyH_take (i := 18) (v := ?vv18_19) rfl (by kernel_rfl) (by kernel_rfl) (by kernel_rfl) (fun _ _ _ h => h) (Or.inl ⟨by rfl, ?yy18_19⟩) (by assumption) ?rr18_19
  case yy18_19 => (intro w hSw; (try dsimp only at hSw); obtain ⟨hs0, hs1, hs2, hs3, hs4, hs5, hs6, hs7, hs8⟩ := hSw; (try simp only [getElem_toArray, getElem_cons_succ, getElem_cons_zero, Act.put, setIfInBounds_toArray, set_cons_zero, set_cons_succ]); go_simp; (try (with_reducible rfl)))
  try simp only [getElem_toArray, getElem_cons_succ, getElem_cons_zero, Act.put, setIfInBounds_toArray, set_cons_zero, set_cons_succ]
  refine wpAnyH_take (i := 19) (v := ?vv19_20) rfl (by kernel_rfl) (by kernel_rfl) (by kernel_rfl) (fun _ _ _ h => h) (Or.inl ⟨by rfl, ?yy19_20⟩) (by assumption) ?rr19_20
  case yy19_20 => (intro w hSw; (try dsimp only at hSw); obtain ⟨hs0, hs1, hs2, hs3, hs4, hs5, hs6, hs7, hs8⟩ := hSw; (try simp only [getElem_toArray, getElem_cons_succ, getElem_cons_zero, Act.put, setIfInBounds_toArray, set_cons_zero, set_cons_succ]); go_simp; (try (with_reducible rfl)))
  try simp only [getElem_toArray, getElem_cons_succ, getElem_cons_zero, Act.put, setIfInBounds_toArray, set_cons_zero, set_cons_succ]
  refine wpAnyH_take (i := 20) (v := ?vv20_21) rfl (by kernel_rfl) (by kernel_rfl) (by kernel_rfl) (fun _ _ _ h => h) (Or.inl ⟨by rfl, ?yy20_21⟩) (by assumption) ?rr20_21
  case yy20_21 => (intro w hSw; (try dsimp only at hSw); obtain ⟨hs0, hs1, hs2, hs3, hs4, hs5, hs6, hs7, hs8⟩ := hSw; (try simp only [getElem_toArray, getElem_cons_succ, getElem_cons_zero, Act.put, setIfInBounds_toArray, set_cons_zero, set_cons_succ]); go_simp; (try (with_reducible rfl)))
  try simp only [getElem_toArray, getElem_cons_succ, getElem_cons_zero, Act.put, setIfInBounds_toArray, set_cons_zero, set_cons_succ]
  refine wpAnyH_take (i := 21) (v := ?vv21_22) rfl (by kernel_rfl) (by kernel_rfl) (by kernel_rfl) (fun _ _ _ h => h) (Or.inl ⟨by rfl, ?yy21_22⟩) (by assumption) ?rr21_22
  case yy21_22 => (intro w hSw; (try dsimp only at hSw); obtain ⟨hs0, hs1, hs2, hs3, hs4, hs5, hs6, hs7, hs8⟩ := hSw; (try simp only [getElem_toArray, getElem_cons_succ, getElem_cons_zero, Act.put, setIfInBounds_toArray, set_cons_zero, set_cons_succ]); go_simp; (try (with_reducible rfl)))
  try simp only [getElem_toArray, getElem_cons_succ, getElem_cons_zero, Act.put, setIfInBounds_toArray, set_cons_zero, set_cons_succ]
  refine wpAnyH_take (i := 22) (v := ?vv22_23) rfl (by kernel_rfl) (by kernel_rfl) (by kernel_rfl) (fun _ _ _ h => h) (Or.inl ⟨by rfl, ?yy22_23⟩) (by assumption) ?rr22_23
  case yy22_23 => (intro w hSw; (try dsimp only at hSw); obtain ⟨hs0, hs1, hs2, hs3, hs4, hs5, hs6, hs7, hs8⟩ := hSw; (try simp only [getElem_toArray, getElem_cons_succ, getElem_cons_zero, Act.put, setIfInBounds_toArray, set_cons_zero, set_cons_succ]); go_simp; (try (with_reducible rfl)))
  try simp only [getElem_toArray, getElem_cons_succ, getElem_cons_zero, Act.put, setIfInBounds_toArray, set_cons_zero, set_cons_succ]
  refine wpAnyH_take (i := 23) (v := ?vv23_24) rfl (by kernel_rfl) (by kernel_rfl) (by kernel_rfl) (fun _ _ _ h => h) (Or.inl ⟨by rfl, ?yy23_24⟩) (by assumption) ?rr23_24
  case yy23_24 => (intro w hSw; (try dsimp only at hSw); obtain ⟨hs0, hs1, hs2, hs3, hs4, hs5, hs6, hs7, hs8⟩ := hSw; (try simp only [getElem_toArray, getElem_cons_succ, getElem_cons_zero, Act.put, setIfInBounds_toArray, set_cons_zero, set_cons_succ]); go_simp; (try (with_reducible rfl)))
  try simp only [getElem_toArray, getElem_cons_succ, getElem_cons_zero, Act.put, setIfInBounds_toArray, set_cons_zero, set_cons_succ]
  refine wpAnyH_take (i := 24) (v := ?vv24_25) rfl (by kernel_rfl) (by kernel_rfl) (by kernel_rfl) (fun _ _ _ h => h) (Or.inl ⟨by rfl, ?yy24_25⟩) (by assumption) ?rr24_25
  case yy24_25 => (intro w hSw; (try dsimp only at hSw); obtain ⟨hs0, hs1, hs2, hs3, hs4, hs5, hs6, hs7, hs8⟩ := hSw; (try simp only [getElem_toArray, getElem_cons_succ, getElem_cons_zero, Act.put, setIfInBounds_toArray, set_cons_zero, set_cons_succ]); go_simp; (try (with_reducible rfl)))
  try simp only [getElem_toArray, getElem_cons_succ, getElem_cons_zero, Act.put, setIfInBounds_toArray, set_cons_zero, set_cons_succ]
  refine wpAnyH_take (i := 25) (v := ?vv25_26) rfl (by kernel_rfl) (by kernel_rfl) (by kernel_rfl) (fun _ _ _ h => h) (Or.inl ⟨by rfl, ?yy25_26⟩) (by assumption) ?rr25_26
  case yy25_26 => (intro w hSw; (try dsimp only at hSw); obtain ⟨hs0, hs1, hs2, hs3, hs4, hs5, hs6, hs7, hs8⟩ := hSw; (try simp only [getElem_toArray, getElem_cons_succ, getElem_cons_zero, Act.put, setIfInBounds_toArray, set_cons_zero, set_cons_succ]); go_simp; (try (with_reducible rfl)))
  try simp only [getElem_toArray, getElem_cons_succ, getElem_cons_zero, Act.put, setIfInBounds_toArray, set_cons_zero, set_cons_succ]
  refine wpAnyH_take (i := 26) (v := ?vv26_27) rfl (by kernel_rfl) (by kernel_rfl) (by kernel_rfl) (fun _ _ _ h => h) (Or.inl ⟨by rfl, ?yy26_27⟩) (by assumption) ?rr26_27
  case yy26_27 => (intro w hSw; (try dsimp only at hSw); obtain ⟨hs0, hs1, hs2, hs3, hs4, hs5, hs6, hs7, hs8⟩ := hSw; (try simp only [getElem_toArray, getElem_cons_succ, getElem_cons_zero, Act.put, setIfInBounds_toArray, set_cons_zero, set_cons_succ]); go_simp; (try (with_reducible rfl)))
  try simp only [getElem_toArray, getElem_cons_succ, getElem_cons_zero, Act.put, setIfInBounds_toArray, set_cons_zero, set_cons_succ]
  refine wpAnyH_take (i := 27) (v := ?vv27_28) rfl (by kernel_rfl) (by kernel_rfl) (by kernel_rfl) (fun _ _ _ h => h) (Or.inl ⟨by rfl, ?yy27_28⟩) (by assumption) ?rr27_28
  case yy27_28 => (intro w hSw; (try dsimp only at hSw); obtain ⟨hs0, hs1, hs2, hs3, hs4, hs5, hs6, hs7, hs8⟩ := hSw; (try simp only [getElem_toArray, getElem_cons_succ, getElem_cons_zero, Act.put, setIfInBounds_toArray, set_cons_zero, set_cons_succ]); go_simp; (try (with_reducible rfl)))
  try simp only [getElem_toArray, getElem_cons_succ, getElem_cons_zero, Act.put, setIfInBounds_toArray, set_cons_zero, set_cons_succ]
  refine wpAnyH_take (i := 28) (v := ?vv28_29) rfl (by kernel_rfl) (by kernel_rfl) (by kernel_rfl) (fun _ _ _ h => h) (Or.inl ⟨by rfl, ?yy28_29⟩) (by assumption) ?rr28_29
  case yy28_29 => (intro w hSw; (try dsimp only at hSw); obtain ⟨hs0, hs1, hs2, hs3, hs4, hs5, hs6, hs7, hs8⟩ := hSw; (try simp only [getElem_toArray, getElem_cons_succ, getElem_cons_zero, Act.put, setIfInBounds_toArray, set_cons_zero, set_cons_succ]); go_simp; (try (with_reducible rfl)))
  try simp only [getElem_toArray, getElem_cons_succ, getElem_cons_zero, Act.put, setIfInBounds_toArray, set_cons_zero, set_cons_succ]
  refine wpAnyH_take (i := 29) (v := ?vv29_30) rfl (by kernel_rfl) (by kernel_rfl) (by kernel_rfl) (fun _ _ _ h => h) (Or.inl ⟨by rfl, ?yy29_30⟩) (by assumption) ?rr29_30
  case yy29_30 => (intro w hSw; (try dsimp only at hSw); obtain ⟨hs0, hs1, hs2, hs3, hs4, hs5, hs6, hs7, hs8⟩ := hSw; (try simp only [getElem_toArray, getElem_cons_succ, getElem_cons_zero, Act.put, setIfInBounds_toArray, set_cons_zero, set_cons_succ]); go_simp; (try (with_reducible rfl)))
  try simp only [getElem_toArray, getElem_cons_succ, getElem_cons_zero, Act.put, setIfInBounds_toArray, set_cons_zero, set_cons_succ]
  refine wpAnyH_take (i := 30) (v := ?vv30_31) rfl (by kernel_rfl) (by kernel_rfl) (by kernel_rfl) (fun _ _ _ h => h) (Or.inl ⟨by rfl, ?yy30_31⟩) (by assumption) ?rr30_31
  case yy30_31 => (intro w hSw; (try dsimp only at hSw); obtain ⟨hs0, hs1, hs2, hs3, hs4, hs5, hs6, hs7, hs8⟩ := hSw; (try simp only [getElem_toArray, getElem_cons_succ, getElem_cons_zero, Act.put, setIfInBounds_toArray, set_cons_zero, set_cons_succ]); go_simp; (try (with_reducible rfl)))
  try simp only [getElem_toArray, getElem_cons_succ, getElem_cons_zero, Act.put, setIfInBounds_toArray, set_cons_zero, set_cons_succ]
  refine wpAnyH_take (i := 31) (v := ?vv31_32) rfl (by kernel_rfl) (by kernel_rfl) (by kernel_rfl) (fun _ _ _ h => h) (Or.inl ⟨by rfl, ?yy31_32⟩) (by assumption) ?rr31_32
  case yy31_32 => (intro w hSw; (try dsimp only at hSw); obtain ⟨hs0, hs1, hs2, hs3, hs4, hs5, hs6, hs7, hs8⟩ := hSw; (try simp only [getElem_toArray, getElem_cons_succ, getElem_cons_zero, Act.put, setIfInBounds_toArray, set_cons_zero, set_cons_succ]); go_simp; (try (with_reducible rfl)))
  try simp only [getElem_toArray, getElem_cons_succ, getElem_cons_zero, Act.put, setIfInBounds_toArray, set_cons_zero, set_cons_succ]
  refine wpAnyH_take (i := 32) (v := ?vv32_33) rfl (by kernel_rfl) (by kernel_rfl) (by kernel_rfl) (fun _ _ _ h => h) (Or.inl ⟨by rfl, ?yy32_33⟩) (by assumption) ?rr32_33
  case yy32_33 => (intro w hSw; (try dsimp only at hSw); obtain ⟨hs0, hs1, hs2, hs3, hs4, hs5, hs6, hs7, hs8⟩ := hSw; (try simp only [getElem_toArray, getElem_cons_succ, getElem_cons_zero, Act.put, setIfInBounds_toArray, set_cons_zero, set_cons_succ]); go_simp; (try (with_reducible rfl)))
  try simp only [getElem_toArray, getElem_cons_succ, getElem_cons_zero, Act.put, setIfInBounds_toArray, set_cons_zero, set_cons_succ]
  refine wpAnyH_take (i := 33) (v := ?vv33_34) rfl (by kernel_rfl) (by kernel_rfl) (by kernel_rfl) (fun _ _ _ h => h) (Or.inl ⟨by rfl, ?yy33_34⟩) (by assumption) ?rr33_34
  case yy33_34 => (intro w hSw; (try dsimp only at hSw); obtain ⟨hs0, hs1, hs2, hs3, hs4, hs5, hs6, hs7, hs8⟩ := hSw; (try simp only [getElem_toArray, getElem_cons_succ, getElem_cons_zero, Act.put, setIfInBounds_toArray, set_cons_zero, set_cons_succ]); go_simp; (try (with_reducible rfl)))
  try simp only [getElem_toArray, getElem_cons_succ, getElem_cons_zero, Act.put, setIfInBounds_toArray, set_cons_zero, set_cons_succ]
  refine wpAnyH_take (i := 34) (v := ?vv34_35) rfl (by kernel_rfl) (by kernel_rfl) (by kernel_rfl) (fun _ _ _ h => h) (Or.inl ⟨by rfl, ?yy34_35⟩) (by assumption) ?rr34_35
  case yy34_35 => (intro w hSw; (try dsimp only at hSw); obtain ⟨hs0, hs1, hs2, hs3, hs4, hs5, hs6, hs7, hs8⟩ := hSw; (try simp only [getElem_toArray, getElem_cons_succ, getElem_cons_zero, Act.put, setIfInBounds_toArray, set_cons_zero, set_cons_succ]); go_simp; (try (with_reducible rfl)))
  try simp only [getElem_toArray, getElem_cons_succ, getElem_cons_zero, Act.put, setIfInBounds_toArray, set_cons_zero, set_cons_succ]
  refine wpAnyH_take (i := 35) (v := ?vv35_36) rfl (by kernel_rfl) (by kernel_rfl) (by kernel_rfl) (fun _ _ _ h => h) (Or.inl ⟨by rfl, ?yy35_36⟩) (by assumption) ?rr35_36
  case yy35_36 => (intro w hSw; (try dsimp only at hSw); obtain ⟨hs0, hs1, hs2, hs3, hs4, hs5, hs6, hs7, hs8⟩ := hSw; (try simp only [getElem_toArray, getElem_cons_succ, getElem_cons_zero, Act.put, setIfInBounds_toArray, set_cons_zero, set_cons_succ]); go_simp; (try (with_reducible rfl)))
  try simp only [getElem_toArray, getElem_cons_succ, getElem_cons_zero, Act.put, setIfInBounds_toArray, set_cons_zero, set_cons_succ]
  refine wpAnyH_take (i := 36) (v := ?vv36_37) rfl (by kernel_rfl) (by kernel_rfl) (by kernel_rfl) (fun _ _ _ h => h) (Or.inl ⟨by rfl, ?yy36_37⟩) (by assumption) ?rr36_37
  case yy36_37 => (intro w hSw; (try dsimp only at hSw); obtain ⟨hs0, hs1, hs2, hs3, hs4, hs5, hs6, hs7, hs8⟩ := hSw; (try simp only [getElem_toArray, getElem_cons_succ, getElem_cons_zero, Act.put, setIfInBounds_toArray, set_cons_zero, set_cons_succ]); go_simp; (try (with_reducible rfl)))
  try simp only [getElem_toArray, getElem_cons_succ, getElem_cons_zero, Act.put, setIfInBounds_toArray, set_cons_zero, set_cons_succ]
  refine wpAnyH_take (i := 37) (v := ?vv37_38) rfl (by kernel_rfl) (by kernel_rfl) (by kernel_rfl) (fun _ _ _ h => h) (Or.inl ⟨by rfl, ?yy37_38⟩) (by assumption) ?rr37_38
  case yy37_38 => (intro w hSw; (try dsimp only at hSw); obtain ⟨hs0, hs1, hs2, hs3, hs4, hs5, hs6, hs7, hs8⟩ := hSw; (try simp only [getElem_toArray, getElem_cons_succ, getElem_cons_zero, Act.put, setIfInBounds_toArray, set_cons_zero, set_cons_succ]); go_simp; (try (with_reducible rfl)))
  try simp only [getElem_toArray, getElem_cons_succ, getElem_cons_zero, Act.put, setIfInBounds_toArray, set_cons_zero, set_cons_succ]
  refine wpAnyH_take (i := 38) (v := ?vv38_39) rfl (by kernel_rfl) (by kernel_rfl) (by kernel_rfl) (fun _ _ _ h => h) (Or.inl ⟨by rfl, ?yy38_39⟩) (by assumption) ?rr38_39
  case yy38_39 => (intro w hSw; (try dsimp only at hSw); obtain ⟨hs0, hs1, hs2, hs3, hs4, hs5, hs6, hs7, hs8⟩ := hSw; (try simp only [getElem_toArray, getElem_cons_succ, getElem_cons_zero, Act.put, setIfInBounds_toArray, set_cons_zero, set_cons_succ]); go_simp; (try (with_reducible rfl)))
  try simp only [getElem_toArray, getElem_cons_succ, getElem_cons_zero, Act.put, setIfInBounds_toArray, set_cons_zero, set_cons_succ]
  refine wpAnyH_take (i := 39) (v := ?vv39_40) rfl (by kernel_rfl) (by kernel_rfl) (by kernel_rfl) (fun _ _ _ h => h) (Or.inl ⟨by rfl, ?yy39_40⟩) (by assumption) ?rr39_40
  case yy39_40 => (intro w hSw; (try dsimp only at hSw); obtain ⟨hs0, hs1, hs2, hs3, hs4, hs5, hs6, hs7, hs8⟩ := hSw; (try simp only [getElem_toArray, getElem_cons_succ, getElem_cons_zero, Act.put, setIfInBounds_toArray, set_cons_zero, set_cons_succ]); go_simp; (try (with_reducible rfl)))
  try simp only [getElem_toArray, getElem_cons_succ, getElem_cons_zero, Act.put, setIfInBounds_toArray, set_cons_zero, set_cons_succ]
  refine wpAnyH_take (i := 40) (v := ?vv40_41) rfl (by kernel_rfl) (by kernel_rfl) (by kernel_rfl) (fun _ _ _ h => h) (Or.inl ⟨by rfl, ?yy40_41⟩) (by assumption) ?rr40_41
  case yy40_41 => (intro w hSw; (try dsimp only at hSw); obtain ⟨hs0, hs1, hs2, hs3, hs4, hs5, hs6, hs7, hs8⟩ := hSw; (try simp only [getElem_toArray, getElem_cons_succ, getElem_cons_zero, Act.put, setIfInBounds_toArray, set_cons_zero, set_cons_succ]); go_simp; (try (with_reducible rfl)))
  try simp only [getElem_toArray, getElem_cons_succ, getElem_cons_zero, Act.put, setIfInBounds_toArray, set_cons_zero, set_cons_succ]
  refine wpAnyH_take (i := 41) (v := ?vv41_42) rfl (by kernel_rfl) (by kernel_rfl) (by kernel_rfl) (fun _ _ _ h => h) (Or.inl ⟨by rfl, ?yy41_42⟩) (by assumption) ?rr41_42
  case yy41_42 => (intro w hSw; (try dsimp only at hSw); obtain ⟨hs0, hs1, hs2, hs3, hs4, hs5, hs6, hs7, hs8⟩ := hSw; (try simp only [getElem_toArray, getElem_cons_succ, getElem_cons_zero, Act.put, setIfInBounds_toArray, set_cons_zero, set_cons_succ]); go_simp; (try (with_reducible rfl)))
  try simp only [getElem_toArray, getElem_cons_succ, getElem_cons_zero, Act.put, setIfInBounds_toArray, set_cons_zero, set_cons_succ]
  refine wpAnyH_take (i := 42) (v := ?vv42_43) rfl (by kernel_rfl) (by kernel_rfl) (by kernel_rfl) (fun _ _ _ h => h) (Or.inl ⟨by rfl, ?yy42_43⟩) (by assumption) ?rr42_43
  case yy42_43 => (intro w hSw; (try dsimp only at hSw); obtain ⟨hs0, hs1, hs2, hs3, hs4, hs5, hs6, hs7, hs8⟩ := hSw; (try simp only [getElem_toArray, getElem_cons_succ, getElem_cons_zero, Act.put, setIfInBounds_toArray, set_cons_zero, set_cons_succ]); go_simp; (try (with_reducible rfl)))
  try simp only [getElem_toArray, getElem_cons_succ, getElem_cons_zero, Act.put, setIfInBounds_toArray, set_cons_zero, set_cons_succ]
  refine wpAnyH_take (i := 43) (v := ?vv43_44) rfl (by kernel_rfl) (by kernel_rfl) (by kernel_rfl) (fun _ _ _ h => h) (Or.inl ⟨by rfl, ?yy43_44⟩) (by assumption) ?rr43_44
  case yy43_44 => (intro w hSw; (try dsimp only at hSw); obtain ⟨hs0, hs1, hs2, hs3, hs4, hs5, hs6, hs7, hs8⟩ := hSw; (try simp only [getElem_toArray, getElem_cons_succ, getElem_cons_zero, Act.put, setIfInBounds_toArray, set_cons_zero, set_cons_succ]); go_simp; (try (with_reducible rfl)))
  try simp only [getElem_toArray, getElem_cons_succ, getElem_cons_zero, Act.put, setIfInBounds_toArray, set_cons_zero, set_cons_succ]
  refine wpAnyH_take (i := 44) (v := ?vv44_45) rfl (by kernel_rfl) (by kernel_rfl) (by kernel_rfl) (fun _ _ _ h => h) (Or.inl ⟨by rfl, ?yy44_45⟩) (by assumption) ?rr44_45
  case yy44_45 => (intro w hSw; (try dsimp only at hSw); obtain ⟨hs0, hs1, hs2, hs3, hs4, hs5, hs6, hs7, hs8⟩ := hSw; (try simp only [getElem_toArray, getElem_cons_succ, getElem_cons_zero, Act.put, setIfInBounds_toArray, set_cons_zero, set_cons_succ]); go_simp; (try (with_reducible rfl)))
  try simp only [getElem_toArray, getElem_cons_succ, getElem_cons_zero, Act.put, setIfInBounds_toArray, set_cons_zero, set_cons_succ]
  refine wpAnyH_take (i := 45) (v := ?vv45_46) rfl (by kernel_rfl) (by kernel_rfl) (by kernel_rfl) (fun _ _ _ h => h) (Or.inl ⟨by rfl, ?yy45_46⟩) (by assumption) ?rr45_46
  case yy45_46 => (intro w hSw; (try dsimp only at hSw); obtain ⟨hs0, hs1, hs2, hs3, hs4, hs5, hs6, hs7, hs8⟩ := hSw; (try simp only [getElem_toArray, getElem_cons_succ, getElem_cons_zero, Act.put, setIfInBounds_toArray, set_cons_zero, set_cons_succ]); go_simp; (try (with_reducible rfl)))
  try simp only [getElem_toArray, getElem_cons_succ, getElem_cons_zero, Act.put, setIfInBounds_toArray, set_cons_zero, set_cons_succ]
  refine wpAnyH_ready (rs := [46]) (by kernel_rfl) (by simp) ?_
  refine AllReadyH.cons (o := _) rfl (fun K hK => ?_) AllReadyH.nil
  try simp only [getElem_toArray, getElem_cons_succ, getElem_cons_zero, Act.put, setIfInBounds_toArray, set_cons_zero, set_cons_succ]
  go_simp
  have HQ : Hid (PAt (setL U w.heap.size (lv p.w)) g p) := PAt.moves HPu.out (setL_moves U w.heap.size (lv p.w)) (by have := HN.out; show ¬ g = w.heap.size; omega)
  refine hK.out _ _ HQ.out.wish (fun hHeld => ?_)
  clear hK K
  try simp only [getElem_toArray, getElem_cons_succ, getElem_cons_zero, Act.put, setIfInBounds_toArray, set_cons_zero, set_cons_succ]
  refine wpAnyH_done (by kernel_rfl) ?_ _
  go_wp2
  have HR : Hid (LAt (setL U w.heap.size (lv p.w)) w.heap.size p.w) := setL_blk HZu.out
  (try simp only [Exit.inBlock, Exit.then])
  refine bodyPost_ret (res_lcp rfl _ _ w.heap.size p.w rfl HR.out rfl (by kernel_rfl)) rfl ?_
  exact ⟨rfl, setL_below HBu.out HBu.out.size (Nat.le_refl _) (lv p.w)⟩
def ReqQ (p : Po) (w : World) (e : Ending) (w' : World) : Prop := ∃ A c, e = .returned (.slice A (req p).length c) ∧ Opts w' w'.heap.size A (req p).length (req p) ∧ Below w.heap.size w w' ∧ (req p).length ≤ c ∧ (A = none → c = 0)
set_option maxHeartbeats 1000000 in
set_option maxRecDepth 100000 in
theorem request_any (g : Nat) (p : Po) (w : World) (h : PAt w g p) (hm : may p.w = true) : Calls Tryz.prog 119 #[.pointer (some ⟨g, 0, none⟩)] w (ReqQ p w) := by
  have HW := Lib.hid (wish_any g p w h)
  have HM := Lib.hid hm
  clear h hm
  go_enter Tryz.func119, Tryz.ntmps119
  go_wp2_with fail
  refine HW.out.mono ?_
  rintro e w1 ⟨rfl, hb1⟩
  have HB1 := Lib.hid hb1
  clear hb1
  go_wp2_with fail
  refine (put_room p.w w1 HM.out).mono ?_
  rintro e w2 ⟨A, c, rfl, hO, hb2, hc1, hc2⟩
  have HB2 := Lib.hid (HB1.out.trans (hb2.mono HB1.out.size))
  have HO := Lib.hid hO
  have HC1 := Lib.hid hc1
  have HC2 := Lib.hid hc2
  clear hb2 hO hc1 hc2
  go_wp2
  go_ret
  exact ⟨A, c, rfl, HO.out, HB2.out, HC1.out, HC2.out⟩
end Go.Proofs.YtpppggicihfbgaaGreat.Pol

/- Contracts of the map's functions that go by a Nak, and by a Reject. -/
namespace Go.Proofs.YtpppggicihfbgaaGreat.Pol
open Go.RowKit Go.Proofs.YtpppggicihfbgaaGreat.Oct Go.Proofs.YtpppggicihfbgaaGreat.Row Go.Proofs.YtpppggicihfbgaaGreat.Mem Go.Proofs.YtpppggicihfbgaaGreat.Opt Go.Proofs.YtpppggicihfbgaaGreat.Lco

def nkF (c : Conf) (w x : Lcp) (d : UInt32) (t : UInt8) : Lcp :=
  if t = 1 then (if 64 ≤ x.mru then { w with mru := x.mru } else w) else if t = 2 then { w with accm := w.accm ||| x.accm } else if t = 3 then (if c.takes &&& x.auth != 0 then { w with auth := x.auth } else w)
  else if t = 5 then { w with magic := nz d } else w
def NkQ (q : Po) (g : Nat) (w : World) (e : Ending) (w' : World) : Prop := e = .returned (.tuple #[]) ∧ PAt w' g q ∧ Moves (fun k => k = g) w w'
theorem u32_orv (a b : UInt32) : bits .or .u32 (a.toNat : Int) (b.toNat : Int) = ((a ||| b).toNat : Int) := by
  rw [UInt32.toNat_or]
  exact u32_or_nat a.toNat b.toNat a.toNat_lt b.toNat_lt
set_option maxHeartbeats 2000000 in
set_option maxRecDepth 100000 in
theorem nk1 (g : Nat) (p : Po) (x : Lcp) (d : UInt32) (w : World) (h : PAt w g p) : Calls Tryz.prog 145 #[.pointer (some ⟨g, 0, none⟩), .agg #[Value.bool x.hm, .int .u16 x.mru.toNat, .bool x.ha, .int .u32 x.accm.toNat, .int .u8 x.auth.toNat, .bool x.hg, .int .u32 x.magic.toNat, .bool x.pfc, .bool x.acfc], .int .u32 d.toNat] w (NkQ { p with w := nkF p.c p.w x d 1 } g w) := by
  obtain ⟨W, hW, HW⟩ := boxL w x
  have HP : Hid (PAt W g p) := h.callee HW.out.2.1
  have HL := Lib.hid HW.out.1
  have HM : Hid (Moves (fun k => k = g) w W) := Moves.of_below HW.out.2.1
  have hgl : ¬ g = w.heap.size := Nat.ne_of_lt h.lt
  have hgl2 : ¬ w.heap.size = g := fun e => hgl e.symm
  have c1 : W.cell? ⟨w.heap.size, 1, none⟩ = some (.int .u16 x.mru.toNat) := HL.out.c 1
  have p1 : W.cell? ⟨g, 1, none⟩ = some (.int .u16 p.w.mru.toNat) := HP.out.c 1
  have f1 := HP.out.f 1
  have hx := u16_ge x.mru
  by_cases hl : 64 ≤ x.mru
  · have HE : Hid (nkF p.c p.w x d 1 = { p.w with mru := x.mru }) := by show _ = _; unfold nkF; rw [if_pos rfl, if_pos hl]
    rw [decide_eq_true hl] at hx
    rw [HE.out]
    clear hl h HW
    go_enter Tryz.func145, Tryz.ntmps145
    go_wp2
    go_end0
    exact ⟨rfl, HP.out.setMru x.mru, HM.out.trans (set_moves W g _ _) (fun _ _ h => h)⟩
  · have HE : Hid (nkF p.c p.w x d 1 = p.w) := by show _ = _; unfold nkF; rw [if_pos rfl, if_neg hl]
    rw [decide_eq_false hl] at hx
    rw [HE.out]
    clear hl h HW
    go_enter Tryz.func145, Tryz.ntmps145
    go_wp2
    go_end0
    exact ⟨rfl, HP.out, HM.out⟩
set_option maxHeartbeats 2000000 in
set_option maxRecDepth 100000 in
theorem nk2 (g : Nat) (p : Po) (x : Lcp) (d : UInt32) (w : World) (h : PAt w g p) : Calls Tryz.prog 148 #[.pointer (some ⟨g, 0, none⟩), .agg #[Value.bool x.hm, .int .u16 x.mru.toNat, .bool x.ha, .int .u32 x.accm.toNat, .int .u8 x.auth.toNat, .bool x.hg, .int .u32 x.magic.toNat, .bool x.pfc, .bool x.acfc], .int .u32 d.toNat] w (NkQ { p with w := nkF p.c p.w x d 2 } g w) := by
  obtain ⟨W, hW, HW⟩ := boxL w x
  have HP : Hid (PAt W g p) := h.callee HW.out.2.1
  have HL := Lib.hid HW.out.1
  have HM : Hid (Moves (fun k => k = g) w W) := Moves.of_below HW.out.2.1
  have hgl : ¬ g = w.heap.size := Nat.ne_of_lt h.lt
  have hgl2 : ¬ w.heap.size = g := fun e => hgl e.symm
  have c3 : W.cell? ⟨w.heap.size, 3, none⟩ = some (.int .u32 x.accm.toNat) := HL.out.c 3
  have p3 : W.cell? ⟨g, 3, none⟩ = some (.int .u32 p.w.accm.toNat) := HP.out.c 3
  have f3 := HP.out.f 3
  have d3 : W.drew.cell? ⟨w.heap.size, 3, none⟩ = some (.int .u32 x.accm.toNat) := c3
  have e3 : W.drew.cell? ⟨g, 3, none⟩ = some (.int .u32 p.w.accm.toNat) := p3
  have g3 : W.drew.frozen? ⟨g, 3, none⟩ = false := f3
  have ho := u32_orv p.w.accm x.accm
  have HE : Hid (nkF p.c p.w x d 2 = { p.w with accm := p.w.accm ||| x.accm }) := rfl
  obtain ⟨v, hv⟩ : ∃ v, p.w.accm ||| x.accm = v := ⟨_, rfl⟩
  rw [hv] at ho HE
  rw [HE.out]
  clear h HW hv
  go_enter Tryz.func148, Tryz.ntmps148
  go_wp2
  clear hW
  go_region
  go_wp2
  go_end0
  exact ⟨rfl, HP.out.setAccm v, (HM.out.trans (set_moves W g 3 (.int .u32 v.toNat)) (fun _ _ h => h)).drew⟩
set_option maxHeartbeats 2000000 in
set_option maxRecDepth 100000 in
theorem nk3 (g : Nat) (p : Po) (x : Lcp) (d : UInt32) (w : World) (h : PAt w g p) : Calls Tryz.prog 151 #[.pointer (some ⟨g, 0, none⟩), .agg #[Value.bool x.hm, .int .u16 x.mru.toNat, .bool x.ha, .int .u32 x.accm.toNat, .int .u8 x.auth.toNat, .bool x.hg, .int .u32 x.magic.toNat, .bool x.pfc, .bool x.acfc], .int .u32 d.toNat] w (NkQ { p with w := nkF p.c p.w x d 3 } g w) := by
  obtain ⟨W, hW, HW⟩ := boxL w x
  have HP : Hid (PAt W g p) := h.callee HW.out.2.1
  have HL := Lib.hid HW.out.1
  have HM : Hid (Moves (fun k => k = g) w W) := Moves.of_below HW.out.2.1
  have hgl : ¬ g = w.heap.size := Nat.ne_of_lt h.lt
  have hgl2 : ¬ w.heap.size = g := fun e => hgl e.symm
  have c4 : W.cell? ⟨w.heap.size, 4, none⟩ = some (.int .u8 x.auth.toNat) := HL.out.c 4
  have p4 : W.cell? ⟨g, 4, none⟩ = some (.int .u8 p.w.auth.toNat) := HP.out.c 4
  have p13 : W.cell? ⟨g, 13, none⟩ = some (.int .u8 p.c.takes.toNat) := HP.out.c 13
  have f4 := HP.out.f 4
  have hx := u8_bits p.c.takes x.auth
  cases hl : (p.c.takes &&& x.auth != 0)
  · have HE : Hid (nkF p.c p.w x d 3 = p.w) := by show _ = _; unfold nkF; rw [if_neg (by decide), if_neg (by decide), if_pos rfl, hl]; rfl
    rw [hl] at hx
    rw [HE.out]
    clear hl h HW
    go_enter Tryz.func151, Tryz.ntmps151
    go_wp2
    clear hW
    go_quiet (fail)
    go_wp2
    go_end0
    exact ⟨rfl, HP.out, HM.out.drewN _⟩
  · have HE : Hid (nkF p.c p.w x d 3 = { p.w with auth := x.auth }) := by show _ = _; unfold nkF; rw [if_neg (by decide), if_neg (by decide), if_pos rfl, hl]; rfl
    rw [hl] at hx
    rw [HE.out]
    clear hl h HW
    go_enter Tryz.func151, Tryz.ntmps151
    go_wp2
    clear hW
    go_quiet (fail)
    have HPu : Hid (PAt (W.drewN nq) g p) := HP.out
    have HMu : Hid (Moves (fun k => k = g) w (W.drewN nq)) := HM.out.drewN nq
    have c4 : (W.drewN nq).cell? ⟨w.heap.size, 4, none⟩ = some (.int .u8 x.auth.toNat) := c4
    have p4 : (W.drewN nq).cell? ⟨g, 4, none⟩ = some (.int .u8 p.w.auth.toNat) := p4
    have f4 : (W.drewN nq).frozen? ⟨g, 4, none⟩ = false := f4
    clear HP HM HL p13
    generalize W.drewN nq = U at *
    go_wp2
    go_end0
    exact ⟨rfl, HPu.out.setAuth x.auth, HMu.out.trans (set_moves U g _ _) (fun _ _ h => h)⟩
set_option maxHeartbeats 2000000 in
set_option maxRecDepth 100000 in
theorem nk5 (g : Nat) (p : Po) (x : Lcp) (d : UInt32) (w : World) (h : PAt w g p) : Calls Tryz.prog 154 #[.pointer (some ⟨g, 0, none⟩), .agg #[Value.bool x.hm, .int .u16 x.mru.toNat, .bool x.ha, .int .u32 x.accm.toNat, .int .u8 x.auth.toNat, .bool x.hg, .int .u32 x.magic.toNat, .bool x.pfc, .bool x.acfc], .int .u32 d.toNat] w (NkQ { p with w := nkF p.c p.w x d 5 } g w) := by
  obtain ⟨W, hW, HW⟩ := boxL w x
  have HP : Hid (PAt W g p) := h.callee HW.out.2.1
  have HL := Lib.hid HW.out.1
  have HM : Hid (Moves (fun k => k = g) w W) := Moves.of_below HW.out.2.1
  have hgl : ¬ g = w.heap.size := Nat.ne_of_lt h.lt
  have hgl2 : ¬ w.heap.size = g := fun e => hgl e.symm
  have p6 : W.cell? ⟨g, 6, none⟩ = some (.int .u32 p.w.magic.toNat) := HP.out.c 6
  have f6 := HP.out.f 6
  have HNZ := Lib.hid (fun w => nz_any d w)
  clear h HW
  go_enter Tryz.func154, Tryz.ntmps154
  go_wp2_with fail
  refine (HNZ.out _).mono ?_
  rintro e _ ⟨rfl, rfl⟩
  go_wp2
  go_end0
  exact ⟨rfl, HP.out.setMagic (nz d), HM.out.trans (set_moves W g _ _) (fun _ _ h => h)⟩
set_option maxHeartbeats 2000000 in
set_option maxRecDepth 100000 in
theorem nk7 (g : Nat) (p : Po) (x : Lcp) (d : UInt32) (w : World) (h : PAt w g p) : Calls Tryz.prog 156 #[.pointer (some ⟨g, 0, none⟩), .agg #[Value.bool x.hm, .int .u16 x.mru.toNat, .bool x.ha, .int .u32 x.accm.toNat, .int .u8 x.auth.toNat, .bool x.hg, .int .u32 x.magic.toNat, .bool x.pfc, .bool x.acfc], .int .u32 d.toNat] w (NkQ { p with w := nkF p.c p.w x d 7 } g w) := by
  obtain ⟨W, hW, HW⟩ := boxL w x
  have HP : Hid (PAt W g p) := h.callee HW.out.2.1
  have HL := Lib.hid HW.out.1
  have HM : Hid (Moves (fun k => k = g) w W) := Moves.of_below HW.out.2.1
  have hgl : ¬ g = w.heap.size := Nat.ne_of_lt h.lt
  have hgl2 : ¬ w.heap.size = g := fun e => hgl e.symm
  clear h HW
  go_enter Tryz.func156, Tryz.ntmps156
  go_wp2
  go_end0
  exact ⟨rfl, HP.out, HM.out⟩
set_option maxHeartbeats 2000000 in
set_option maxRecDepth 100000 in
theorem nk8 (g : Nat) (p : Po) (x : Lcp) (d : UInt32) (w : World) (h : PAt w g p) : Calls Tryz.prog 158 #[.pointer (some ⟨g, 0, none⟩), .agg #[Value.bool x.hm, .int .u16 x.mru.toNat, .bool x.ha, .int .u32 x.accm.toNat, .int .u8 x.auth.toNat, .bool x.hg, .int .u32 x.magic.toNat, .bool x.pfc, .bool x.acfc], .int .u32 d.toNat] w (NkQ { p with w := nkF p.c p.w x d 8 } g w) := by
  obtain ⟨W, hW, HW⟩ := boxL w x
  have HP : Hid (PAt W g p) := h.callee HW.out.2.1
  have HL := Lib.hid HW.out.1
  have HM : Hid (Moves (fun k => k = g) w W) := Moves.of_below HW.out.2.1
  have hgl : ¬ g = w.heap.size := Nat.ne_of_lt h.lt
  have hgl2 : ¬ w.heap.size = g := fun e => hgl e.symm
  clear h HW
  go_enter Tryz.func158, Tryz.ntmps158
  go_wp2
  go_end0
  exact ⟨rfl, HP.out, HM.out⟩
end Go.Proofs.YtpppggicihfbgaaGreat.Pol

/- What a Nak comes to, and a Reject: plain mathematics; the map's functions by type. -/
namespace Go.Proofs.YtpppggicihfbgaaGreat.Pol
open Go.RowKit Go.Proofs.YtpppggicihfbgaaGreat.Oct Go.Proofs.YtpppggicihfbgaaGreat.Row Go.Proofs.YtpppggicihfbgaaGreat.Mem Go.Proofs.YtpppggicihfbgaaGreat.Opt Go.Proofs.YtpppggicihfbgaaGreat.Lco

theorem or_idem (a b : UInt32) : (a ||| b) ||| b = a ||| b := by
  apply UInt32.eq_of_toBitVec_eq
  simp [BitVec.or_assoc]
theorem nkW_step {c : Conf} {w x : Lcp} {d : UInt32} {m : UInt8 → Bool} {t : UInt8} (ht : known t = true) (hh : has t w = true) : nkF c (nkW c w x d m) x d t = nkW c w x d (fun u => m u || u == t) := by
  rcases known_cases ht with e | e | e | e | e | e <;> subst e
  · have h : w.hm = true := hh
    unfold nkF nkW
    by_cases h6 : 64 ≤ x.mru
    · cases h1 : m 1 <;> simp [h, h6, h1]
    · cases h1 : m 1 <;> simp [h, h6, h1]
  · have h : w.ha = true := hh
    unfold nkF nkW
    cases h1 : m 2 <;> simp [h, h1, or_idem]
  · have h : (w.auth != 0) = true := hh
    unfold nkF nkW
    cases h6 : (c.takes &&& x.auth != 0)
    · cases h1 : m 3 <;> simp [h, h6, h1]
    · cases h1 : m 3 <;> simp [h, h6, h1]
  · have h : w.hg = true := hh
    unfold nkF nkW
    cases h1 : m 5 <;> simp [h, h1]
  · unfold nkF nkW; simp
  · unfold nkF nkW; simp
theorem nkW_skip {c : Conf} {w x : Lcp} {d : UInt32} {m : UInt8 → Bool} {t : UInt8} (ht : known t = true) (hh : has t w = false) : nkW c w x d (fun u => m u || u == t) = nkW c w x d m := by
  rcases known_cases ht with e | e | e | e | e | e <;> subst e
  · have h : w.hm = false := hh
    unfold nkW; simp [h]
  · have h : w.ha = false := hh
    unfold nkW; simp [h]
  · have h : (w.auth != 0) = false := hh
    unfold nkW; simp [h]
  · have h : w.hg = false := hh
    unfold nkW; simp [h]
  · unfold nkW; simp
  · unfold nkW; simp
theorem nkW_congr {c : Conf} {w x : Lcp} {d : UInt32} {m m' : UInt8 → Bool} (h : ∀ t, known t = true → m t = m' t) : nkW c w x d m = nkW c w x d m' := by
  unfold nkW
  rw [h 1 rfl, h 2 rfl, h 3 rfl, h 5 rfl]
def mk (l : List Opt) (t : UInt8) : Bool := l.any fun o => good o && t == o.1
theorem mk_snoc (l : List Opt) (k : Nat) (o : Opt) (h : l[k]? = some o) : mk (l.take (k + 1)) = fun t => mk (l.take k) t || (good o && t == o.1) := by
  obtain ⟨hk, rfl⟩ := List.getElem?_eq_some_iff.1 h
  funext t
  unfold mk
  rw [List.take_succ_eq_append_getElem hk, List.any_append, List.any_cons, List.any_nil, Bool.or_false]
theorem mk_has {l : List Opt} (h : gE l = 0) (t : UInt8) (ht : known t = true) : mk l t = has t (Lco.gL l) := by
  unfold Lco.gE at h
  unfold Lco.gL
  cases hs : st l with
  | none => rw [hs] at h; cases h
  | some p =>
    obtain ⟨x, odd⟩ := p
    obtain ⟨_, _, hr⟩ := st_some hs
    rw [Bool.eq_iff_iff, hr.2.1 t ht]
    unfold mk
    rw [List.any_eq_true]
    constructor
    · rintro ⟨o, ho, h2⟩
      simp only [Bool.and_eq_true, beq_iff_eq] at h2
      exact ⟨o.2, List.mem_filter.2 ⟨by rw [h2.2]; exact ho, by rw [h2.2]; exact h2.1⟩⟩
    · rintro ⟨d, hd⟩
      obtain ⟨h1, h2⟩ := List.mem_filter.1 hd
      exact ⟨(t, d), h1, by rw [h2, beq_self_eq_true]; rfl⟩
theorem nkW_may {c : Conf} {w x : Lcp} {d : UInt32} {m : UInt8 → Bool} (h : may w = true) (hx : may x = true) : may (nkW c w x d m) = true := by
  rw [may_iff] at h hx ⊢
  obtain ⟨h1, h2, h3, h4⟩ := h
  refine ⟨?_, fun e => ?_, fun e => ?_, fun e => ?_⟩
  · show (if _ then x.auth else w.auth) ≤ 2
    split
    · exact hx.1
    · exact h1
  · show (if _ then x.mru else w.mru) = 0
    have e' : w.hm = false := e
    rw [e']
    simp [h2 e']
  · show (if _ then w.accm ||| x.accm else w.accm) = 0
    have e' : w.ha = false := e
    rw [e']
    simp [h3 e']
  · show (if _ then nz d else w.magic) = 0
    have e' : w.hg = false := e
    rw [e']
    simp [h4 e']
theorem naked_fn {t : UInt8} (ht : known t = true) (g : Nat) (p : Po) (x : Lcp) (d : UInt32) (w : World) (h : PAt w g p) : Calls Tryz.prog (fN t) #[.pointer (some ⟨g, 0, none⟩), .agg (lv x).toArray, .int .u32 d.toNat] w (NkQ { p with w := nkF p.c p.w x d t } g w) := by
  rcases known_cases ht with e | e | e | e | e | e <;> subst e
  · exact nk1 g p x d w h
  · exact nk2 g p x d w h
  · exact nk3 g p x d w h
  · exact nk5 g p x d w h
  · exact nk7 g p x d w h
  · exact nk8 g p x d w h
set_option maxRecDepth 100000 in
theorem field1 (a b c : Nat) (w : World) : (Instr.field 238 (.agg #[.func (.func a) #[] #[], .func (.func b) #[] #[], .func (.func c) #[] #[]]) 1).run Tryz.prog w = .ok (.func (.func b) #[] #[]) w := by kernel_rfl
def RepQ (b : Bool) (q : Po) (g : Nat) (w : World) (e : Ending) (w' : World) : Prop := e = .returned (.bool b) ∧ PAt w' g q ∧ Moves (fun k => k = g) w w'
end Go.Proofs.YtpppggicihfbgaaGreat.Pol

/- Contract of Rejected. -/
namespace Go.Proofs.YtpppggicihfbgaaGreat.Pol
open Go.RowKit Go.Proofs.YtpppggicihfbgaaGreat.Oct Go.Proofs.YtpppggicihfbgaaGreat.Row Go.Proofs.YtpppggicihfbgaaGreat.Mem Go.Proofs.YtpppggicihfbgaaGreat.Opt Go.Proofs.YtpppggicihfbgaaGreat.Lco

end Go.Proofs.YtpppggicihfbgaaGreat.Pol

/- Contract of Naked. -/
namespace Go.Proofs.YtpppggicihfbgaaGreat.Pol
open Go.RowKit Go.Proofs.YtpppggicihfbgaaGreat.Oct Go.Proofs.YtpppggicihfbgaaGreat.Row Go.Proofs.YtpppggicihfbgaaGreat.Mem Go.Proofs.YtpppggicihfbgaaGreat.Opt Go.Proofs.YtpppggicihfbgaaGreat.Lco

theorem nk_no {p : Po} {d : UInt32} {l : List Opt} (h : nkB l = false) : nkP p d l = p := by unfold nkP; rw [h]; rfl
theorem fB_put {x : Lcp} {t : UInt8} (ht : known t = true) : Opt.fB t (put x) = has t x := by
  cases hh : has t x
  · have : fd t (put x) = none := fd_none.2 fun d hd => by
      have := (mem_put.1 hd).2.1
      rw [hh] at this; cases this
    unfold Opt.fB
    rw [this]; rfl
  · unfold Opt.fB
    rw [fd_put ht hh]; rfl
def nkS (p : Po) (d : UInt32) (l : List Opt) (k : Nat) : Po := { p with w := nkW p.c p.w (gL l) d (mk (l.take k)) }
theorem nkS_zero (p : Po) (d : UInt32) (l : List Opt) : nkS p d l 0 = p := by
  unfold nkS nkW
  rw [List.take_zero]
  rfl
theorem nkS_skip {p : Po} {d : UInt32} {l : List Opt} {k : Nat} {o : Opt} (h : l[k]? = some o) (hs : (Opt.fB o.1 (put p.w) && good o) = false) : nkS p d l (k + 1) = nkS p d l k := by
  unfold nkS
  rw [mk_snoc l k o h]
  cases hg : good o
  · congr 2
    funext t
    simp
  · have hk := good_known hg
    rw [hg, Bool.and_true, fB_put hk] at hs
    have e : (fun t => mk (l.take k) t || (true && t == o.1)) = fun t => mk (l.take k) t || t == o.1 := by
      funext t
      rw [Bool.true_and]
    rw [e, nkW_skip hk hs]
theorem nkS_step {p : Po} {d : UInt32} {l : List Opt} {k : Nat} {o : Opt} (h : l[k]? = some o) (hg : good o = true) (hs : Opt.fB o.1 (put p.w) = true) : nkS p d l (k + 1) = { nkS p d l k with w := nkF (nkS p d l k).c (nkS p d l k).w (gL l) d o.1 } := by
  have hk := good_known hg
  rw [fB_put hk] at hs
  unfold nkS
  rw [mk_snoc l k o h, hg]
  have e : (fun t => mk (l.take k) t || (true && t == o.1)) = fun t => mk (l.take k) t || t == o.1 := by
    funext t
    rw [Bool.true_and]
  rw [e, ← nkW_step hk hs]
theorem nkS_end {p : Po} {d : UInt32} {l : List Opt} (hn : l ≠ []) (h : gE l = 0) : nkP p d l = nkS p d l l.length ∧ nkB l = true := by
  have hb : nkB l = true := by
    unfold nkB
    rw [h]
    simpa using hn
  refine ⟨?_, hb⟩
  unfold nkP nkS
  rw [hb, if_pos rfl, List.take_of_length_le (Nat.le_refl _), nkW_congr (fun t ht => (mk_has h t ht).symm)]
structure Nj (w wr : World) (g m bx B4 : Nat) (q : Po) (x : Lcp) (r : List Opt) (A : Option Addr) (n : Nat) (l : List Opt) (A4 : Option Addr) (n4 : Nat) : Prop where
  hj : Jd w wr g q A n l
  hs : Sy wr m
  hx : LAt wr bx x
  ho : Opts wr B4 A4 n4 r
  hb : B4 ≤ wr.heap.size
  hne : bx ≠ g
theorem Nj.callee {w wr w' : World} {g m bx B4 : Nat} {q : Po} {x : Lcp} {r : List Opt} {A : Option Addr} {n : Nat} {l : List Opt} {A4 : Option Addr} {n4 : Nat} (h : Nj w wr g m bx B4 q x r A n l A4 n4) (hb : Below wr.heap.size wr w') : Nj w w' g m bx B4 q x r A n l A4 n4 :=
  ⟨h.hj.callee hb, h.hs.callee hb, h.hx.callee hb, h.ho.callee hb h.hb, Nat.le_trans h.hb hb.size, h.hne⟩
theorem Nj.turn {w wr w' : World} {g m bx B4 : Nat} {q q' : Po} {x : Lcp} {r : List Opt} {A : Option Addr} {n : Nat} {l : List Opt} {A4 : Option Addr} {n4 : Nat} (h : Nj w wr g m bx B4 q x r A n l A4 n4) (hm : Moves (fun k => k = g) wr w') (hp : PAt w' g q') : Nj w w' g m bx B4 q' x r A n l A4 n4 :=
  ⟨h.hj.turn hm hp, h.hs.moves hm (fun e => sy_blk h.hs h.hj.hp e), Blk.moves h.hx hm h.hne, opts_past h.ho h.hj.hp (pv_no q) hm h.hb, Nat.le_trans h.hb hm.size, h.hne⟩
set_option maxHeartbeats 8000000 in
set_option maxRecDepth 100000 in
theorem naked_any (g : Nat) (p : Po) (d : UInt32) (l : List Opt) (A : Option Addr) (n c : Nat) (w : World) (h : PAt w g p) (hm : may p.w = true) (hl : Opts w w.heap.size A n l) (hn : n ≤ 1000) :
    Calls Tryz.prog 208 #[.pointer (some ⟨g, 0, none⟩), .int .u32 d.toNat, .slice A n c] w (RepQ (nkB l) (nkP p d l) g w) := by
  have HP := Lib.hid h
  have HL := Lib.hid hl
  have Hn := Lib.hid hl.1
  have HR := Lib.hid (fun W h => request_any g p W h hm)
  have HG := Lib.hid (get_c l A n c w hl hn)
  have hlt0 := Lib.hid h.lt
  clear h hl hm
  go_enter Tryz.func208, Tryz.ntmps208
  by_cases hn0 : n = 0
  · subst hn0
    have HE : Hid (nkB l = false ∧ nkP p d l = p) := by
      have e := List.length_eq_zero_iff.1 Hn.out
      show _ ∧ _
      rw [e]
      exact ⟨rfl, rfl⟩
    go_wp2
    go_ret
    unfold RepQ
    rw [HE.out.1, HE.out.2]
    exact ⟨rfl, HP.out, Moves.refl _ _⟩
  · have hn1 : ¬ (n : Int) = 0 := by omega
    have HNN : Hid (l ≠ []) := by show _ ≠ _; rintro rfl; exact hn0 (by rw [← Hn.out]; rfl)
    go_wp2_with fail
    refine HG.out.mono ?_
    rintro e w1 ⟨A1, c1, rfl, _, hb1⟩
    have HB1 := Lib.hid hb1
    have HP1 := Lib.hid (HP.out.callee hb1)
    have HGN : Hid (w1.heap.size ≠ g) := Nat.ne_of_gt (Nat.lt_of_lt_of_le hlt0.out hb1.size)
    clear hb1 HG
    generalize (gO l).length = n1
    obtain ⟨V, hV, HV⟩ := boxL w1 (gL l)
    have HBV := Lib.hid (HB1.out.trans (HV.out.2.1.mono HB1.out.size))
    have HPV := Lib.hid (HP1.out.callee HV.out.2.1)
    have HLV := Lib.hid HV.out.1
    have HSZ := Lib.hid HV.out.2.2
    clear HV HP1 HP HB1
    cases he : decide (gE l = 0)
    · have he' : ¬ gE l = 0 := of_decide_eq_false he
      have HE : Hid (nkB l = false) := by
        show _ = _
        unfold nkB
        rw [show (gE l == 0) = false by simpa using he', Bool.and_false]
      have he2 : ¬ (gE l : Int) = 0 := by omega
      have he3 : ((gE l : Int) != 0) = true := by simpa using he2
      clear he he'
      generalize gE l = E at *
      go_wp2
      go_ret
      unfold RepQ
      rw [nk_no HE.out, HE.out]
      exact ⟨rfl, HPV.out, Moves.of_below HBV.out⟩
    · have he' : gE l = 0 := of_decide_eq_true he
      have HE := Lib.hid (nkS_end (p := p) (d := d) HNN.out he')
      have he3 : ((gE l : Int) != 0) = false := by rw [he']; rfl
      rw [he'] at *
      clear he he'
      have HX : Hid (gL l = gL l) := rfl
      have HZ := Lib.hid (nkS_zero p d l)
      have HSK := Lib.hid (fun k o => @nkS_skip p d l k o)
      have HST := Lib.hid (fun k o => @nkS_step p d l k o)
      generalize gL l = x at *
      go_wp2_with fail
      refine (sayings_any V).mono ?_
      rintro e w3 ⟨m, rfl, hm3, hs3, hb3⟩
      have HP3 := Lib.hid (HPV.out.callee hb3)
      have HL3 := Lib.hid (HLV.out.callee hb3)
      have HS3 := Lib.hid hs3
      have HB3 := Lib.hid (HBV.out.trans (hb3.mono HBV.out.size))
      clear hb3 hs3 hm3 HPV HLV HBV hV
      go_wp2_with fail
      refine (HR.out _ HP3.out).mono ?_
      rintro e w4 ⟨A4, c4, rfl, hO4, hb4, _, _⟩
      have HP4 := Lib.hid (HP3.out.callee hb4)
      have HL4 := Lib.hid (HL3.out.callee hb4)
      have HS4 := Lib.hid (HS3.out.callee hb4)
      have HB4 := Lib.hid (HB3.out.trans (hb4.mono HB3.out.size))
      have HO4 := Lib.hid hO4
      have hlg : (req p).length ≤ 6 := put_len6 p.w
      clear hb4 hO4 HP3 HL3 HS3 HB3 HR
      generalize (req p).length = n4 at *
      have HN : Hid (Nj w w4 g m w1.heap.size w4.heap.size p x (req p) A n l A4 n4) := ⟨⟨HP4.out, Moves.of_below HB4.out, HL.out.below HB4.out⟩, HS4.out, HL4.out, HO4.out, Nat.le_refl _, HGN.out⟩
      have HN4 : n4 ≤ 6 := hlg
      clear HP4 HL4 HS4 HB4 HO4 HL hlg HGN
      generalize w4.heap.size = B4 at *
      generalize w1.heap.size = bx at *
      generalize hrq : req p = r at *
      have HRQ : Hid (put p.w = r) := hrq
      clear hrq
      rw [HRQ.out] at HSK HST
      rw [← HZ.out] at HN
      go_wp2
      go_loopw [36] (fun i wr => ∃ k : Nat, k ≤ n ∧ i = .int .i64 k ∧ Hid (Nj w wr g m bx B4 (nkS p d l k) x r A n l A4 n4)) (fun i _ => n - (intOf i).toNat)
      case atStart => exact ⟨0, Nat.zero_le _, rfl, HN⟩
      case round =>
        obtain ⟨k, hk, rfl, HJ⟩ := hrel
        by_cases hlt : k < n
        · obtain ⟨ad, o, rfl, hB, ho, hS1, hc0, hc1⟩ := HJ.out.hj.ho.at_ hlt
          have HSKk := Lib.hid (HSK.out k o ho)
          have HSTk := Lib.hid (HST.out k o ho)
          clear ho
          obtain ⟨W, hW, HW⟩ := boxO wr o
          have HJ1 := Lib.hid (HJ.out.callee HW.out.2.1)
          have HO1 := Lib.hid HW.out.1
          have o0 := HO1.out.c0
          have HFi := Lib.hid (find_any o.1 r B4 A4 n4 c4 W HJ1.out.ho (by unfold maxLen; omega) HJ1.out.hb)
          clear HW HJ
          go_wp2_with fail
          refine HFi.out.mono ?_
          rintro e w5 ⟨rfl, hb5⟩
          have HJ5 := Lib.hid (HJ1.out.callee hb5)
          have HO5 := Lib.hid (HO1.out.callee hb5)
          clear hb5 HFi HJ1 HO1 hW o0 hc0 hc1
          obtain ⟨U, hU, HU⟩ := boxO w5 (Opt.fA o.1 r)
          have HJ6 := Lib.hid (HJ5.out.callee HU.out.2.1)
          have HO6 := Lib.hid (HO5.out.callee HU.out.2.1)
          have o0 := HO6.out.c0
          have o1 := HO6.out.c1
          clear HU HJ5 HO5
          generalize Opt.fA o.1 r = f at *
          cases hfb : Opt.fB o.1 r
          · have HE2 : Hid (nkS p d l (k + 1) = nkS p d l k) := HSKk.out (by rw [hfb]; rfl)
            rw [← HE2.out] at HJ6
            clear hfb HSKk HSTk HE2
            go_wp2
            go_roundw
            case rel => exact ⟨k + 1, by omega, by go_num, Lib.hid (HJ6.out.callee (Below.refl _ _))⟩
            case measure => simp [intOf]; omega
          · have HGd := Lib.hid (fun W => good_any o.1 o.2 W (by unfold maxLen; omega))
            have HFB := Lib.hid hfb
            clear hfb
            go_wp2_with fail
            refine (HGd.out _).mono ?_
            rintro e w6 ⟨rfl, hb6⟩
            have HJ7 := Lib.hid (HJ6.out.callee hb6)
            have HO7 := Lib.hid (HO6.out.callee hb6)
            clear hb6 hU HJ6 HO6 o0 o1 HGd
            cases hgd : good o
            · have HE2 : Hid (nkS p d l (k + 1) = nkS p d l k) := HSKk.out (by rw [hgd, Bool.and_false])
              rw [← HE2.out] at HJ7
              clear hgd HSKk HSTk HE2 HO7
              go_wp2
              go_roundw
              case rel => exact ⟨k + 1, by omega, by go_num, HJ7⟩
              case measure => simp [intOf]; omega
            · have hkn := good_known hgd
              have HE2 := Lib.hid (HSTk.out hgd HFB.out)
              have HT : Hid (∀ g p w, PAt w g p → Calls Tryz.prog (fN o.1) #[.pointer (some ⟨g, 0, none⟩), .agg (lv x).toArray, .int .u32 d.toNat] w (NkQ { p with w := nkF p.c p.w x d o.1 } g w)) := fun g p w h => naked_fn hkn g p x d w h
              have hE := fN_enters hkn
              have hlk := say_look hkn HJ7.out.hs
              unfold trip at hlk
              have o0 := HO7.out.c0
              have x0 : w6.cell? ⟨bx, 0, none⟩ = some (Value.bool x.hm) := HJ7.out.hx.c 0
              have x1 : w6.cell? ⟨bx, 1, none⟩ = some (.int .u16 x.mru.toNat) := HJ7.out.hx.c 1
              have x2 : w6.cell? ⟨bx, 2, none⟩ = some (.bool x.ha) := HJ7.out.hx.c 2
              have x3 : w6.cell? ⟨bx, 3, none⟩ = some (.int .u32 x.accm.toNat) := HJ7.out.hx.c 3
              have x4 : w6.cell? ⟨bx, 4, none⟩ = some (.int .u8 x.auth.toNat) := HJ7.out.hx.c 4
              have x5 : w6.cell? ⟨bx, 5, none⟩ = some (.bool x.hg) := HJ7.out.hx.c 5
              have x6 : w6.cell? ⟨bx, 6, none⟩ = some (.int .u32 x.magic.toNat) := HJ7.out.hx.c 6
              have x7 : w6.cell? ⟨bx, 7, none⟩ = some (.bool x.pfc) := HJ7.out.hx.c 7
              have x8 : w6.cell? ⟨bx, 8, none⟩ = some (.bool x.acfc) := HJ7.out.hx.c 8
              clear hgd hkn HSKk HSTk HFB
              generalize fB o.1 = F1 at *
              generalize fN o.1 = F2 at *
              generalize fX o.1 = F3 at *
              have hf1 := fun w => field1 F1 F2 F3 w
              generalize hq : nkS p d l k = q at *
              have HQ := Lib.hid hq
              clear hq
              go_wp2_with fail
              refine (HT.out g q _ HJ7.out.hj.hp).mono ?_
              rintro e w7 ⟨rfl, hp7, hm7⟩
              have HJ8 := Lib.hid (HJ7.out.turn hm7 hp7)
              rw [← HE2.out] at HJ8
              clear hm7 hp7 HT hE hlk HJ7 HE2 o0 hf1 x0 x1 x2 x3 x4 x5 x6 x7 x8 HO7
              go_wp2
              go_roundw
              case rel => exact ⟨k + 1, by omega, by go_num, HJ8⟩
              case measure => simp [intOf]; omega
        · obtain rfl : k = n := by omega
          have HF : Hid (Jd w wr g (nkP p d l) A k l) := by
            have h := HJ.out.hj
            rw [HE.out.1, Hn.out]
            exact h
          go_wp2
          go_ret
          unfold RepQ
          rw [HE.out.2]
          exact ⟨rfl, HF.out.hp, HF.out.hm⟩
end Go.Proofs.YtpppggicihfbgaaGreat.Pol

/- Contracts of Reset, Copy, Mine, Acked. Written by gen/pol_qa.py. -/
namespace Go.Proofs.YtpppggicihfbgaaGreat.Pol
open Go.RowKit Go.Proofs.YtpppggicihfbgaaGreat.Oct Go.Proofs.YtpppggicihfbgaaGreat.Row Go.Proofs.YtpppggicihfbgaaGreat.Mem Go.Proofs.YtpppggicihfbgaaGreat.Opt Go.Proofs.YtpppggicihfbgaaGreat.Lco

set_option maxHeartbeats 4000000 in
set_option maxRecDepth 100000 in
theorem reset_any (g : Nat) (p : Po) (m : UInt32) (w : World) (h : PAt w g p) : Calls Tryz.prog 209 #[.pointer (some ⟨g, 0, none⟩), .int .u32 m.toNat] w fun e w' => e = .returned (.int .i64 0) ∧ PAt w' g (newP p.c m) ∧ Moves (fun k => k = g) w w' := by
  have HP := Lib.hid h
  have c9 : w.cell? ⟨g, 9, none⟩ = some (.int .u16 p.c.mru.toNat) := HP.out.c 9
  have c10 : w.cell? ⟨g, 10, none⟩ = some (.bool p.c.ha) := HP.out.c 10
  have c11 : w.cell? ⟨g, 11, none⟩ = some (.int .u32 p.c.accm.toNat) := HP.out.c 11
  have c12 : w.cell? ⟨g, 12, none⟩ = some (.int .u8 p.c.auth.toNat) := HP.out.c 12
  have c13 : w.cell? ⟨g, 13, none⟩ = some (.int .u8 p.c.takes.toNat) := HP.out.c 13
  have c14 : w.cell? ⟨g, 14, none⟩ = some (.int .u8 p.c.can.toNat) := HP.out.c 14
  have c15 : w.cell? ⟨g, 15, none⟩ = some (.bool p.c.mg) := HP.out.c 15
  have c16 : w.cell? ⟨g, 16, none⟩ = some (.bool p.c.pfc) := HP.out.c 16
  have c17 : w.cell? ⟨g, 17, none⟩ = some (.bool p.c.acfc) := HP.out.c 17
  have c18 : w.cell? ⟨g, 18, none⟩ = some (.int .i64 p.c.mn) := HP.out.c 18
  have HM := Lib.hid (fun w => made_any p.c m w)
  have HN := Lib.hid (pol_size (newP p.c m))
  have HO := Lib.hid (pv_one (newP p.c m))
  have HE : Hid (∀ W : World, PAt W g p → PAt (W.setRow g (pv (newP p.c m)).toArray) g (newP p.c m)) := fun W hW => pat_row hW _
  have HZ : Hid ((pv p).toArray.size = (pv (newP p.c m)).toArray.size) := rfl
  generalize (pv (newP p.c m)).toArray = cs at *
  clear h
  go_enter Tryz.func209, Tryz.ntmps209
  go_wp2_with fail
  refine (HM.out _).mono ?_
  rintro e w2 ⟨rfl, hb2⟩
  have HB2 := Lib.hid hb2
  have HP2 := Lib.hid (HP.out.callee hb2)
  clear hb2
  go_wp2_with (refine wpList_store_row rfl 78 _ _ rfl g cs rfl rfl 78 _ HP2.out HN.out HZ.out HO.out ?_)
  go_ret
  exact ⟨rfl, HE.out _ HP2.out, (Moves.of_below HB2.out).trans (moves_row w2 g _) (fun _ _ h => h)⟩
set_option maxHeartbeats 4000000 in
set_option maxRecDepth 100000 in
theorem copy_any (g : Nat) (p : Po) (w : World) (h : PAt w g p) : Calls Tryz.prog 23 #[.pointer (some ⟨g, 0, none⟩)] w fun e w' => ∃ g', e = .returned (.pointer (some ⟨g', 0, none⟩)) ∧ w.heap.size ≤ g' ∧ PAt w' g' p ∧ Below w.heap.size w w' := by
  have HP : Hid (w.heap[g]? = some (.cells (pv p).toArray 78 (0, 0))) := h
  have HN := Lib.hid (pol_size p)
  have HO := Lib.hid (pv_one p)
  have HE : Hid (∀ W : World, PAt (W.alloc (.cells (pv p).toArray 78)) W.heap.size p) := fun W => pat_new W _
  have HZ : Hid ((pv zp).toArray.size = (pv p).toArray.size) := rfl
  have hz := zero_pol
  generalize (pv zp).toArray = zs at *
  generalize (pv p).toArray = cs at *
  clear h
  go_enter Tryz.func23, Tryz.ntmps23
  go_wp2_with (first
    | (refine wpList_load_row rfl 78 _ rfl g rfl 78 cs (0, 0) _ HP.out Tryz.underlying78 rfl HN.out ?_)
    | (refine wpList_store_row rfl 78 _ _ rfl w.heap.size cs rfl rfl 78 zs (World.alloc_heap_new w _) HN.out HZ.out HO.out ?_))
  go_ret
  rw [World.setRow_alloc_new]
  exact ⟨_, rfl, Nat.le_refl _, HE.out w, (Below.refl _ _).alloc (Nat.le_refl _) _⟩
set_option maxHeartbeats 1000000 in
set_option maxRecDepth 100000 in
theorem mine_any (g : Nat) (p : Po) (w : World) (h : PAt w g p) : Calls Tryz.prog 11 #[.pointer (some ⟨g, 0, none⟩)] w (BetQ p.mine w) := by
  have HP := Lib.hid h
  clear h
  obtain ⟨V, hV, HV⟩ := boxZ w
  have HQ : Hid (PAt V g p) := HP.out.callee HV.out.2.1
  have p19 : V.cell? ⟨g, 19, none⟩ = some (.bool p.mine.hm) := HQ.out.c 19
  have p20 : V.cell? ⟨g, 20, none⟩ = some (.int .u16 p.mine.mru.toNat) := HQ.out.c 20
  have p21 : V.cell? ⟨g, 21, none⟩ = some (.bool p.mine.ha) := HQ.out.c 21
  have p22 : V.cell? ⟨g, 22, none⟩ = some (.int .u32 p.mine.accm.toNat) := HQ.out.c 22
  have p23 : V.cell? ⟨g, 23, none⟩ = some (.int .u8 p.mine.auth.toNat) := HQ.out.c 23
  have p24 : V.cell? ⟨g, 24, none⟩ = some (.bool p.mine.hg) := HQ.out.c 24
  have p25 : V.cell? ⟨g, 25, none⟩ = some (.int .u32 p.mine.magic.toNat) := HQ.out.c 25
  have p26 : V.cell? ⟨g, 26, none⟩ = some (.bool p.mine.pfc) := HQ.out.c 26
  have p27 : V.cell? ⟨g, 27, none⟩ = some (.bool p.mine.acfc) := HQ.out.c 27
  have HN := Lib.hid (lcp_size p.mine)
  have HZ := Lib.hid HV.out.1
  have HB := Lib.hid HV.out.2.1
  go_enter Tryz.func11, Tryz.ntmps11
  go_wp2_with (refine wpList_store_row rfl 42 _ _ rfl w.heap.size (lv p.mine).toArray rfl rfl 42 _ HZ.out HN.out rfl (lv_one _) ?_)
  (try simp only [Exit.inBlock, Exit.then])
  refine bodyPost_ret (bet_res rfl _ p.mine HZ.out rfl) rfl ?_
  exact bet_q p.mine HB.out (Nat.le_refl _)
set_option maxHeartbeats 4000000 in
set_option maxRecDepth 100000 in
theorem acked_any (g : Nat) (p : Po) (l : List Opt) (A : Option Addr) (n c : Nat) (w : World) (h : PAt w g p) (hm : may p.w = true) (hl : Opts w w.heap.size A n l) (hn : n ≤ 1000) :
    Calls Tryz.prog 116 #[.pointer (some ⟨g, 0, none⟩), .slice A n c] w (RepQ (akB p l) (akP p l) g w) := by
  have HP := Lib.hid h
  have HL := Lib.hid hl
  have HR := Lib.hid (request_any g p w h hm)
  have hlg : (req p).length ≤ 6 := put_len p.w
  clear h hl hm
  go_enter Tryz.func116, Tryz.ntmps116
  go_wp2_with fail
  refine HR.out.mono ?_
  rintro e w1 ⟨A2, c2, rfl, hO, hb1, _, _⟩
  have HP1 := Lib.hid (HP.out.callee hb1)
  have HB1 := Lib.hid hb1
  have HA := Lib.hid (alike_any l (req p) _ A A2 n (req p).length c c2 w1 (HL.out.next hb1) hO (by unfold maxLen; omega) (by unfold maxLen; omega) (Nat.le_refl _))
  have HE : Hid (akB p l = sm l (req p)) := rfl
  clear HR hO hb1
  cases hs : sm l (req p)
  · have HE2 : Hid (akB p l = false ∧ akP p l = p) := by
      have e : akB p l = false := by rw [HE.out, hs]
      exact ⟨e, by unfold akP; rw [e]; rfl⟩
    rw [hs] at HA
    clear hs HE
    go_wp2_with fail
    refine HA.out.mono ?_
    rintro e w2 ⟨rfl, hb2⟩
    have HP2 := Lib.hid (HP1.out.callee hb2)
    have HB2 := Lib.hid (HB1.out.trans (hb2.mono HB1.out.size))
    clear hb2 HA
    go_wp2
    go_ret
    unfold RepQ
    rw [HE2.out.1, HE2.out.2]
    exact ⟨rfl, HP2.out, Moves.of_below HB2.out⟩
  · have HE2 : Hid (akB p l = true ∧ akP p l = { p with mine := p.w }) := by
      have e : akB p l = true := by rw [HE.out, hs]
      exact ⟨e, by unfold akP; rw [e]; rfl⟩
    rw [hs] at HA
    clear hs HE
    go_wp2_with fail
    refine HA.out.mono ?_
    rintro e w2 ⟨rfl, hb2⟩
    have HP2 := Lib.hid (HP1.out.callee hb2)
    have HB2 := Lib.hid (HB1.out.trans (hb2.mono HB1.out.size))
    clear hb2 HA
    go_wp2_with fail
    refine (wish_any g p w2 HP2.out).mono ?_
    rintro e w3 ⟨rfl, hb3⟩
    have HP3 := Lib.hid (HP2.out.callee hb3)
    have HB3 := Lib.hid (HB2.out.trans (hb3.mono HB2.out.size))
    clear hb3
    have p19 : w3.cell? ⟨g, 19, none⟩ = some (.bool p.mine.hm) := HP3.out.c 19
    have p20 : w3.cell? ⟨g, 20, none⟩ = some (.int .u16 p.mine.mru.toNat) := HP3.out.c 20
    have p21 : w3.cell? ⟨g, 21, none⟩ = some (.bool p.mine.ha) := HP3.out.c 21
    have p22 : w3.cell? ⟨g, 22, none⟩ = some (.int .u32 p.mine.accm.toNat) := HP3.out.c 22
    have p23 : w3.cell? ⟨g, 23, none⟩ = some (.int .u8 p.mine.auth.toNat) := HP3.out.c 23
    have p24 : w3.cell? ⟨g, 24, none⟩ = some (.bool p.mine.hg) := HP3.out.c 24
    have p25 : w3.cell? ⟨g, 25, none⟩ = some (.int .u32 p.mine.magic.toNat) := HP3.out.c 25
    have p26 : w3.cell? ⟨g, 26, none⟩ = some (.bool p.mine.pfc) := HP3.out.c 26
    have p27 : w3.cell? ⟨g, 27, none⟩ = some (.bool p.mine.acfc) := HP3.out.c 27
    have q19 := HP3.out.f 19
    have q20 := HP3.out.f 20
    have q21 := HP3.out.f 21
    have q22 := HP3.out.f 22
    have q23 := HP3.out.f 23
    have q24 := HP3.out.f 24
    have q25 := HP3.out.f 25
    have q26 := HP3.out.f 26
    have q27 := HP3.out.f 27
    obtain ⟨V, hV⟩ : ∃ V, w3.setCells g 19 (lv p.w) = V := ⟨_, rfl⟩
    have HPV : Hid (PAt V g { p with mine := p.w }) := by show PAt _ _ _; rw [← hV]; exact HP3.out.setMine p.w
    have HMV : Hid (Moves (fun k => k = g) w V) := by show Moves _ _ _; rw [← hV]; exact (Moves.of_below HB3.out).trans (sets_moves _ _ _ _) (fun _ _ h => h)
    simp only [World.setCells, lv] at hV
    unfold lv
    go_wp2
    go_ret
    unfold RepQ
    rw [HE2.out.1, HE2.out.2]
    exact ⟨rfl, HPV.out, HMV.out⟩
end Go.Proofs.YtpppggicihfbgaaGreat.Pol

/- What LcppolTakes asks: plain mathematics. -/
namespace Go.Proofs.YtpppggicihfbgaaGreat.Pol
open Go.RowKit Go.Proofs.YtpppggicihfbgaaGreat.Oct Go.Proofs.YtpppggicihfbgaaGreat.Row Go.Proofs.YtpppggicihfbgaaGreat.Mem Go.Proofs.YtpppggicihfbgaaGreat.Opt Go.Proofs.YtpppggicihfbgaaGreat.Lco

theorem gL_may (l : List Opt) : may (Lco.gL l) = true := by
  unfold Lco.gL
  cases h : st l with
  | none => rfl
  | some p => exact (st_some h).2.2.1
theorem wish_may {c : Conf} (m : UInt32) (h : mayC c = true) : may (wish c m) = true := by
  unfold mayC at h
  simp only [Bool.and_eq_true, decide_eq_true_eq, Bool.or_eq_true, beq_iff_eq] at h
  rw [may_iff]
  refine ⟨h.1.1.1.1.1.2, fun e => ?_, fun e => ?_, fun e => ?_⟩
  · have e' : (c.mru != 0) = false := e
    show c.mru = 0
    simpa using e'
  · have e' : c.ha = false := e
    have := h.1.1.1.1.1.1.2
    rw [e'] at this
    show c.accm = 0
    simpa using this
  · have e' : c.mg = false := e
    show (if c.mg then nz m else 0) = 0
    rw [e']; rfl
theorem nkP_may {p : Po} (d : UInt32) (l : List Opt) (h : may p.w = true) : may (nkP p d l).w = true := by
  unfold nkP
  split
  · exact nkW_may h (gL_may l)
  · exact h
end Go.Proofs.YtpppggicihfbgaaGreat.Pol
