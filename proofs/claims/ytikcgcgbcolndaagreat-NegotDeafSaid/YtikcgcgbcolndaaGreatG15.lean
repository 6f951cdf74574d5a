/- Put together: IppG, IppQa. -/
import Derived.Test.YtikcgcgbcolndaaGreatG25
import Derived.Test.YtikcgcgbcolndaaGreatIppK
import Derived.Deep.RegionHeld3
import Derived.OrdersHeld

/- Contracts of the program's getters, list, Request, Copy, Reset. -/
set_option linter.unusedSimpArgs false
set_option linter.unusedVariables false
namespace Go.Proofs.YtikcgcgbcolndaaGreat.Ipp
open Go.RowKit Go.Proofs.YtikcgcgbcolndaaGreat.Oct Go.Proofs.YtikcgcgbcolndaaGreat.Row Go.Proofs.YtikcgcgbcolndaaGreat.Mem Go.Proofs.YtikcgcgbcolndaaGreat.Opt Go.Proofs.YtikcgcgbcolndaaGreat.Ipc

theorem boxZ (w : World) : ∃ V, w.alloc (.cells #[Value.bool false, .int .u32 0, .bool false, .int .u32 0, .bool false, .int .u32 0] 52) = V ∧ Hid (LAt V w.heap.size lz ∧ Below w.heap.size w V ∧ V.heap.size = w.heap.size + 1) :=
  ⟨_, rfl, lat_new w lz, (Below.refl w.heap.size w).alloc (Nat.le_refl _) _, by simp⟩
set_option maxHeartbeats 1000000 in
set_option maxRecDepth 100000 in
theorem peer_any (g : Nat) (p : Po) (w : World) (h : PAt w g p) : Calls Tryz.prog 21 #[.pointer (some ⟨g, 0, none⟩)] w (BetQ p.peer w) := by
  have HP := Lib.hid h
  clear h
  obtain ⟨V, hV, HV⟩ := boxZ w
  have HQ : Hid (PAt V g p) := HP.out.callee HV.out.2.1
  have p18 : V.cell? ⟨g, 18, none⟩ = some (Value.bool p.peer.ha) := HQ.out.c 18
  have p19 : V.cell? ⟨g, 19, none⟩ = some (.int .u32 p.peer.addr.toNat) := HQ.out.c 19
  have p20 : V.cell? ⟨g, 20, none⟩ = some (Value.bool p.peer.h1) := HQ.out.c 20
  have p21 : V.cell? ⟨g, 21, none⟩ = some (.int .u32 p.peer.dns1.toNat) := HQ.out.c 21
  have p22 : V.cell? ⟨g, 22, none⟩ = some (Value.bool p.peer.h2) := HQ.out.c 22
  have p23 : V.cell? ⟨g, 23, none⟩ = some (.int .u32 p.peer.dns2.toNat) := HQ.out.c 23
  have HN := Lib.hid (ipc_size p.peer)
  have HZ := Lib.hid HV.out.1
  have HB := Lib.hid HV.out.2.1
  go_enter Tryz.func21, Tryz.ntmps21
  go_wp2_with (refine wpList_store_row rfl 52 _ _ rfl w.heap.size (lv p.peer).toArray rfl rfl 52 _ HZ.out HN.out rfl (lv_one _) ?_)
  (try simp only [Exit.inBlock, Exit.then])
  refine bodyPost_ret (bet_res rfl _ p.peer HZ.out rfl) rfl ?_
  exact bet_q p.peer HB.out (Nat.le_refl _)
set_option maxHeartbeats 1000000 in
set_option maxRecDepth 100000 in
theorem mine_any (g : Nat) (p : Po) (w : World) (h : PAt w g p) : Calls Tryz.prog 20 #[.pointer (some ⟨g, 0, none⟩)] w (BetQ p.mine w) := by
  have HP := Lib.hid h
  clear h
  obtain ⟨V, hV, HV⟩ := boxZ w
  have HQ : Hid (PAt V g p) := HP.out.callee HV.out.2.1
  have p12 : V.cell? ⟨g, 12, none⟩ = some (Value.bool p.mine.ha) := HQ.out.c 12
  have p13 : V.cell? ⟨g, 13, none⟩ = some (.int .u32 p.mine.addr.toNat) := HQ.out.c 13
  have p14 : V.cell? ⟨g, 14, none⟩ = some (Value.bool p.mine.h1) := HQ.out.c 14
  have p15 : V.cell? ⟨g, 15, none⟩ = some (.int .u32 p.mine.dns1.toNat) := HQ.out.c 15
  have p16 : V.cell? ⟨g, 16, none⟩ = some (Value.bool p.mine.h2) := HQ.out.c 16
  have p17 : V.cell? ⟨g, 17, none⟩ = some (.int .u32 p.mine.dns2.toNat) := HQ.out.c 17
  have HN := Lib.hid (ipc_size p.mine)
  have HZ := Lib.hid HV.out.1
  have HB := Lib.hid HV.out.2.1
  go_enter Tryz.func20, Tryz.ntmps20
  go_wp2_with (refine wpList_store_row rfl 52 _ _ rfl w.heap.size (lv p.mine).toArray rfl rfl 52 _ HZ.out HN.out rfl (lv_one _) ?_)
  (try simp only [Exit.inBlock, Exit.then])
  refine bodyPost_ret (bet_res rfl _ p.mine HZ.out rfl) rfl ?_
  exact bet_q p.mine HB.out (Nat.le_refl _)
set_option maxHeartbeats 8000000 in
set_option maxRecDepth 100000 in
theorem wish_any (g : Nat) (p : Po) (w : World) (h : PAt w g p) : Calls Tryz.prog 45 #[.pointer (some ⟨g, 0, none⟩)] w (BetQ p.w w) := by
  have HN := Lib.hid h.lt
  obtain ⟨W, hW, HV⟩ := boxZ w
  have HP : Hid (PAt W g p) := h.callee HV.out.2.1
  have HZ := Lib.hid HV.out.1
  have HB := Lib.hid HV.out.2.1
  obtain ⟨p0, p1, p2, p3, p4, p5⟩ := HP.out.wish
  have z0 : W.drew.cell? ⟨w.heap.size, 0, none⟩ = some (Value.bool false) := HZ.out.c 0
  have z1 : W.drew.cell? ⟨w.heap.size, 1, none⟩ = some (.int .u32 0) := HZ.out.c 1
  have z2 : W.drew.cell? ⟨w.heap.size, 2, none⟩ = some (.bool false) := HZ.out.c 2
  have z3 : W.drew.cell? ⟨w.heap.size, 3, none⟩ = some (.int .u32 0) := HZ.out.c 3
  have z4 : W.drew.cell? ⟨w.heap.size, 4, none⟩ = some (.bool false) := HZ.out.c 4
  have z5 : W.drew.cell? ⟨w.heap.size, 5, none⟩ = some (.int .u32 0) := HZ.out.c 5
  have f0 : W.drew.frozen? ⟨w.heap.size, 0, none⟩ = false := HZ.out.f 0
  have f1 : W.drew.frozen? ⟨w.heap.size, 1, none⟩ = false := HZ.out.f 1
  have f2 : W.drew.frozen? ⟨w.heap.size, 2, none⟩ = false := HZ.out.f 2
  have f3 : W.drew.frozen? ⟨w.heap.size, 3, none⟩ = false := HZ.out.f 3
  have f4 : W.drew.frozen? ⟨w.heap.size, 4, none⟩ = false := HZ.out.f 4
  have f5 : W.drew.frozen? ⟨w.heap.size, 5, none⟩ = false := HZ.out.f 5
  clear h HV
  go_enter Tryz.func45, Tryz.ntmps45
  go_wp2_with fail
  clear hW
  refine wp_region_held_drew (S := (fun w' => w'.cell? ⟨g, 0, none⟩ = some (Value.bool p.w.ha) ∧ w'.cell? ⟨g, 1, none⟩ = some (.int .u32 p.w.addr.toNat) ∧ w'.cell? ⟨g, 2, none⟩ = some (.bool p.w.h1) ∧ w'.cell? ⟨g, 3, none⟩ = some (.int .u32 p.w.dns1.toNat) ∧ w'.cell? ⟨g, 4, none⟩ = some (.bool p.w.h2) ∧ w'.cell? ⟨g, 5, none⟩ = some (.int .u32 p.w.dns2.toNat))) (by kernel_rfl) ⟨p0, p1, p2, p3, p4, p5⟩ (fun hHeld => ?_)
  have HPu : Hid (PAt W.drew g p) := HP.out
  have HZu : Hid (LAt W.drew w.heap.size lz) := HZ.out
  have HBu : Hid (Below w.heap.size w W.drew) := HB.out.drew
  clear HP HZ HB p0 p1 p2 p3 p4 p5
  generalize W.drew = U at *
  refine wpAnyH_take (i := 0) (v := ?vv0_1) rfl (by kernel_rfl) (by kernel_rfl) (by kernel_rfl) (fun _ _ _ h => h) (Or.inl ⟨by rfl, ?yy0_1⟩) (by assumption) ?rr0_1
  case yy0_1 => (intro w hSw; (try dsimp only at hSw); obtain ⟨hs0, hs1, hs2, hs3, hs4, hs5⟩ := hSw; (try simp only [List.getElem_toArray, List.getElem_cons_succ, List.getElem_cons_zero, Act.put, List.setIfInBounds_toArray, List.set_cons_zero, List.set_cons_succ]); go_simp; (try (with_reducible rfl)))
  try simp only [List.getElem_toArray, List.getElem_cons_succ, List.getElem_cons_zero, Act.put, List.setIfInBounds_toArray, List.set_cons_zero, List.set_cons_succ]
  refine wpAnyH_take (i := 1) (v := ?vv1_2) rfl (by kernel_rfl) (by kernel_rfl) (by kernel_rfl) (fun _ _ _ h => h) (Or.inl ⟨by rfl, ?yy1_2⟩) (by assumption) ?rr1_2
  case yy1_2 => (intro w hSw; (try dsimp only at hSw); obtain ⟨hs0, hs1, hs2, hs3, hs4, hs5⟩ := hSw; (try simp only [List.getElem_toArray, List.getElem_cons_succ, List.getElem_cons_zero, Act.put, List.setIfInBounds_toArray, List.set_cons_zero, List.set_cons_succ]); go_simp; (try (with_reducible rfl)))
  try simp only [List.getElem_toArray, List.getElem_cons_succ, List.getElem_cons_zero, Act.put, List.setIfInBounds_toArray, List.set_cons_zero, List.set_cons_succ]
  refine wpAnyH_take (i := 2) (v := ?vv2_3) rfl (by kernel_rfl) (by kernel_rfl) (by kernel_rfl) (fun _ _ _ h => h) (Or.inl ⟨by rfl, ?yy2_3⟩) (by assumption) ?rr2_3
  case yy2_3 => (intro w hSw; (try dsimp only at hSw); obtain ⟨hs0, hs1, hs2, hs3, hs4, hs5⟩ := hSw; (try simp only [List.getElem_toArray, List.getElem_cons_succ, List.getElem_cons_zero, Act.put, List.setIfInBounds_toArray, List.set_cons_zero, List.set_cons_succ]); go_simp; (try (with_reducible rfl)))
  try simp only [List.getElem_toArray, List.getElem_cons_succ, List.getElem_cons_zero, Act.put, List.setIfInBounds_toArray, List.set_cons_zero, List.set_cons_succ]
  refine wpAnyH_take (i := 3) (v := ?vv3_4) rfl (by kernel_rfl) (by kernel_rfl) (by kernel_rfl) (fun _ _ _ h => h) (Or.inl ⟨by rfl, ?yy3_4⟩) (by assumption) ?rr3_4
  case yy3_4 => (intro w hSw; (try dsimp only at hSw); obtain ⟨hs0, hs1, hs2, hs3, hs4, hs5⟩ := hSw; (try simp only [List.getElem_toArray, List.getElem_cons_succ, List.getElem_cons_zero, Act.put, List.setIfInBounds_toArray, List.set_cons_zero, List.set_cons_succ]); go_simp; (try (with_reducible rfl)))
  try simp only [List.getElem_toArray, List.getElem_cons_succ, List.getElem_cons_zero, Act.put, List.setIfInBounds_toArray, List.set_cons_zero, List.set_cons_succ]
  refine wpAnyH_take (i := 4) (v := ?vv4_5) rfl (by kernel_rfl) (by kernel_rfl) (by kernel_rfl) (fun _ _ _ h => h) (Or.inl ⟨by rfl, ?yy4_5⟩) (by assumption) ?rr4_5
  case yy4_5 => (intro w hSw; (try dsimp only at hSw); obtain ⟨hs0, hs1, hs2, hs3, hs4, hs5⟩ := hSw; (try simp only [List.getElem_toArray, List.getElem_cons_succ, List.getElem_cons_zero, Act.put, List.setIfInBounds_toArray, List.set_cons_zero, List.set_cons_succ]); go_simp; (try (with_reducible rfl)))
  try simp only [List.getElem_toArray, List.getElem_cons_succ, List.getElem_cons_zero, Act.put, List.setIfInBounds_toArray, List.set_cons_zero, List.set_cons_succ]
  refine wpAnyH_take (i := 5) (v := ?vv5_6) rfl (by kernel_rfl) (by kernel_rfl) (by kernel_rfl) (fun _ _ _ h => h) (Or.inl ⟨by rfl, ?yy5_6⟩) (by assumption) ?rr5_6
  case yy5_6 => (intro w hSw; (try dsimp only at hSw); obtain ⟨hs0, hs1, hs2, hs3, hs4, hs5⟩ := hSw; (try simp only [List.getElem_toArray, List.getElem_cons_succ, List.getElem_cons_zero, Act.put, List.setIfInBounds_toArray, List.set_cons_zero, List.set_cons_succ]); go_simp; (try (with_reducible rfl)))
  try simp only [List.getElem_toArray, List.getElem_cons_succ, List.getElem_cons_zero, Act.put, List.setIfInBounds_toArray, List.set_cons_zero, List.set_cons_succ]
  refine wpAnyH_take (i := 6) (v := ?vv6_7) rfl (by kernel_rfl) (by kernel_rfl) (by kernel_rfl) (fun _ _ _ h => h) (Or.inl ⟨by rfl, ?yy6_7⟩) (by assumption) ?rr6_7
  case yy6_7 => (intro w hSw; (try dsimp only at hSw); obtain ⟨hs0, hs1, hs2, hs3, hs4, hs5⟩ := hSw; (try simp only [List.getElem_toArray, List.getElem_cons_succ, List.getElem_cons_zero, Act.put, List.setIfInBounds_toArray, List.set_cons_zero, List.set_cons_succ]); go_simp; (try (with_reducible rfl)))
  try simp only [List.getElem_toArray, List.getElem_cons_succ, List.getElem_cons_zero, Act.put, List.setIfInBounds_toArray, List.set_cons_zero, List.set_cons_succ]
  refine wpAnyH_take (i := 7) (v := ?vv7_8) rfl (by kernel_rfl) (by kernel_rfl) (by kernel_rfl) (fun _ _ _ h => h) (Or.inl ⟨by rfl, ?yy7_8⟩) (by assumption) ?rr7_8
  case yy7_8 => (intro w hSw; (try dsimp only at hSw); obtain ⟨hs0, hs1, hs2, hs3, hs4, hs5⟩ := hSw; (try simp only [List.getElem_toArray, List.getElem_cons_succ, List.getElem_cons_zero, Act.put, List.setIfInBounds_toArray, List.set_cons_zero, List.set_cons_succ]); go_simp; (try (with_reducible rfl)))
  try simp only [List.getElem_toArray, List.getElem_cons_succ, List.getElem_cons_zero, Act.put, List.setIfInBounds_toArray, List.set_cons_zero, List.set_cons_succ]
  refine wpAnyH_take (i := 8) (v := ?vv8_9) rfl (by kernel_rfl) (by kernel_rfl) (by kernel_rfl) (fun _ _ _ h => h) (Or.inl ⟨by rfl, ?yy8_9⟩) (by assumption) ?rr8_9
  case yy8_9 => (intro w hSw; (try dsimp only at hSw); obtain ⟨hs0, hs1, hs2, hs3, hs4, hs5⟩ := hSw; (try simp only [List.getElem_toArray, List.getElem_cons_succ, List.getElem_cons_zero, Act.put, List.setIfInBounds_toArray, List.set_cons_zero, List.set_cons_succ]); go_simp; (try (with_reducible rfl)))
  try simp only [List.getElem_toArray, List.getElem_cons_succ, List.getElem_cons_zero, Act.put, List.setIfInBounds_toArray, List.set_cons_zero, List.set_cons_succ]
  refine wpAnyH_take (i := 9) (v := ?vv9_10) rfl (by kernel_rfl) (by kernel_rfl) (by kernel_rfl) (fun _ _ _ h => h) (Or.inl ⟨by rfl, ?yy9_10⟩) (by assumption) ?rr9_10
  case yy9_10 => (intro w hSw; (try dsimp only at hSw); obtain ⟨hs0, hs1, hs2, hs3, hs4, hs5⟩ := hSw; (try simp only [List.getElem_toArray, List.getElem_cons_succ, List.getElem_cons_zero, Act.put, List.setIfInBounds_toArray, List.set_cons_zero, List.set_cons_succ]); go_simp; (try (with_reducible rfl)))
  try simp only [List.getElem_toArray, List.getElem_cons_succ, List.getElem_cons_zero, Act.put, List.setIfInBounds_toArray, List.set_cons_zero, List.set_cons_succ]
  refine wpAnyH_take (i := 10) (v := ?vv10_11) rfl (by kernel_rfl) (by kernel_rfl) (by kernel_rfl) (fun _ _ _ h => h) (Or.inl ⟨by rfl, ?yy10_11⟩) (by assumption) ?rr10_11
  case yy10_11 => (intro w hSw; (try dsimp only at hSw); obtain ⟨hs0, hs1, hs2, hs3, hs4, hs5⟩ := hSw; (try simp only [List.getElem_toArray, List.getElem_cons_succ, List.getElem_cons_zero, Act.put, List.setIfInBounds_toArray, List.set_cons_zero, List.set_cons_succ]); go_simp; (try (with_reducible rfl)))
  try simp only [List.getElem_toArray, List.getElem_cons_succ, List.getElem_cons_zero, Act.put, List.setIfInBounds_toArray, List.set_cons_zero, List.set_cons_succ]
  refine wpAnyH_take (i := 11) (v := ?vv11_12) rfl (by kernel_rfl) (by kernel_rfl) (by kernel_rfl) (fun _ _ _ h => h) (Or.inl ⟨by rfl, ?yy11_12⟩) (by assumption) ?rr11_12
  case yy11_12 => (intro w hSw; (try dsimp only at hSw); obtain ⟨hs0, hs1, hs2, hs3, hs4, hs5⟩ := hSw; (try simp only [List.getElem_toArray, List.getElem_cons_succ, List.getElem_cons_zero, Act.put, List.setIfInBounds_toArray, List.set_cons_zero, List.set_cons_succ]); go_simp; (try (with_reducible rfl)))
  try simp only [List.getElem_toArray, List.getElem_cons_succ, List.getElem_cons_zero, Act.put, List.setIfInBounds_toArray, List.set_cons_zero, List.set_cons_succ]
  refine wpAnyH_take (i := 12) (v := ?vv12_13) rfl (by kernel_rfl) (by kernel_rfl) (by kernel_rfl) (fun _ _ _ h => h) (Or.inl ⟨by rfl, ?yy12_13⟩) (by assumption) ?rr12_13
  case yy12_13 => (intro w hSw; (try dsimp only at hSw); obtain ⟨hs0, hs1, hs2, hs3, hs4, hs5⟩ := hSw; (try simp only [List.getElem_toArray, List.getElem_cons_succ, List.getElem_cons_zero, Act.put, List.setIfInBounds_toArray, List.set_cons_zero, List.set_cons_succ]); go_simp; (try (with_reducible rfl)))
  try simp only [List.getElem_toArray, List.getElem_cons_succ, List.getElem_cons_zero, Act.put, List.setIfInBounds_toArray, List.set_cons_zero, List.set_cons_succ]
  refine wpAnyH_take (i := 13) (v := ?vv13_14) rfl (by kernel_rfl) (by kernel_rfl) (by kernel_rfl) (fun _ _ _ h => h) (Or.inl ⟨by rfl, ?yy13_14⟩) (by assumption) ?rr13_14
  case yy13_14 => (intro w hSw; (try dsimp only at hSw); obtain ⟨hs0, hs1, hs2, hs3, hs4, hs5⟩ := hSw; (try simp only [List.getElem_toArray, List.getElem_cons_succ, List.getElem_cons_zero, Act.put, List.setIfInBounds_toArray, List.set_cons_zero, List.set_cons_succ]); go_simp; (try (with_reducible rfl)))
  try simp only [List.getElem_toArray, List.getElem_cons_succ, List.getElem_cons_zero, Act.put, List.setIfInBounds_toArray, List.set_cons_zero, List.set_cons_succ]
  refine wpAnyH_take (i := 14) (v := ?vv14_15) rfl (by kernel_rfl) (by kernel_rfl) (by kernel_rfl) (fun _ _ _ h => h) (Or.inl ⟨by rfl, ?yy14_15⟩) (by assumption) ?rr14_15
  case yy14_15 => (intro w hSw; (try dsimp only at hSw); obtain ⟨hs0, hs1, hs2, hs3, hs4, hs5⟩ := hSw; (try simp only [List.getElem_toArray, List.getElem_cons_succ, List.getElem_cons_zero, Act.put, List.setIfInBounds_toArray, List.set_cons_zero, List.set_cons_succ]); go_simp; (try (with_reducible rfl)))
  try simp only [List.getElem_toArray, List.getElem_cons_succ, List.getElem_cons_zero, Act.put, List.setIfInBounds_toArray, List.set_cons_zero, List.set_cons_succ]
  refine wpAnyH_take (i := 15) (v := ?vv15_16) rfl (by kernel_rfl) (by kernel_rfl) (by kernel_rfl) (fun _ _ _ h => h) (Or.inl ⟨by rfl, ?yy15_16⟩) (by assumption) ?rr15_16
  case yy15_16 => (intro w hSw; (try dsimp only at hSw); obtain ⟨hs0, hs1, hs2, hs3, hs4, hs5⟩ := hSw; (try simp only [List.getElem_toArray, List.getElem_cons_succ, List.getElem_cons_zero, Act.put, List.setIfInBounds_toArray, List.set_cons_zero, List.set_cons_succ]); go_simp; (try (with_reducible rfl)))
  try simp only [List.getElem_toArray, List.getElem_cons_succ, List.getElem_cons_zero, Act.put, List.setIfInBounds_toArray, List.set_cons_zero, List.set_cons_succ]
  refine wpAnyH_take (i := 16) (v := ?vv16_17) rfl (by kernel_rfl) (by kernel_rfl) (by kernel_rfl) (fun _ _ _ h => h) (Or.inl ⟨by rfl, ?yy16_17⟩) (by assumption) ?rr16_17
  case yy16_17 => (intro w hSw; (try dsimp only at hSw); obtain ⟨hs0, hs1, hs2, hs3, hs4, hs5⟩ := hSw; (try simp only [List.getElem_toArray, List.getElem_cons_succ, List.getElem_cons_zero, Act.put, List.setIfInBounds_toArray, List.set_cons_zero, List.set_cons_succ]); go_simp; (try (with_reducible rfl)))
  try simp only [List.getElem_toArray, List.getElem_cons_succ, List.getElem_cons_zero, Act.put, List.setIfInBounds_toArray, List.set_cons_zero, List.set_cons_succ]
  refine wpAnyH_take (i := 17) (v := ?vv17_18) rfl (by kernel_rfl) (by kernel_rfl) (by kernel_rfl) (fun _ _ _ h => h) (Or.inl ⟨by rfl, ?yy17_18⟩) (by assumption) ?rr17_18
  case yy17_18 => (intro w hSw; (try dsimp only at hSw); obtain ⟨hs0, hs1, hs2, hs3, hs4, hs5⟩ := hSw; (try simp only [List.getElem_toArray, List.getElem_cons_succ, List.getElem_cons_zero, Act.put, List.setIfInBounds_toArray, List.set_cons_zero, List.set_cons_succ]); go_simp; (try (with_reducible rfl)))
  try simp only [List.getElem_toArray, List.getElem_cons_succ, List.getElem_cons_zero, Act.put, List.setIfInBounds_toArray, List.set_cons_zero, List.set_cons_succ]
  refine wpAnyH_take (i := 18) (v := ?vv18_19) rfl (by kernel_rfl) (by kernel_rfl) (by kernel_rfl) (fun _ _ _ h => h) (Or.inl ⟨by rfl, ?yy18_19⟩) (by assumption) ?rr18_19
  case yy18_19 => (intro w hSw; (try dsimp only at hSw); obtain ⟨hs0, hs1, hs2, hs3, hs4, hs5⟩ := hSw; (try simp only [List.getElem_toArray, List.getElem_cons_succ, List.getElem_cons_zero, Act.put, List.setIfInBounds_toArray, List.set_cons_zero, List.set_cons_succ]); go_simp; (try (with_reducible rfl)))
  try simp only [List.getElem_toArray, List.getElem_cons_succ, List.getElem_cons_zero, Act.put, List.setIfInBounds_toArray, List.set_cons_zero, List.set_cons_succ]
  refine wpAnyH_take (i := 19) (v := ?vv19_20) rfl (by kernel_rfl) (by kernel_rfl) (by kernel_rfl) (fun _ _ _ h => h) (Or.inl ⟨by rfl, ?yy19_20⟩) (by assumption) ?rr19_20
  case yy19_20 => (intro w hSw; (try dsimp only at hSw); obtain ⟨hs0, hs1, hs2, hs3, hs4, hs5⟩ := hSw; (try simp only [List.getElem_toArray, List.getElem_cons_succ, List.getElem_cons_zero, Act.put, List.setIfInBounds_toArray, List.set_cons_zero, List.set_cons_succ]); go_simp; (try (with_reducible rfl)))
  try simp only [List.getElem_toArray, List.getElem_cons_succ, List.getElem_cons_zero, Act.put, List.setIfInBounds_toArray, List.set_cons_zero, List.set_cons_succ]
  refine wpAnyH_take (i := 20) (v := ?vv20_21) rfl (by kernel_rfl) (by kernel_rfl) (by kernel_rfl) (fun _ _ _ h => h) (Or.inl ⟨by rfl, ?yy20_21⟩) (by assumption) ?rr20_21
  case yy20_21 => (intro w hSw; (try dsimp only at hSw); obtain ⟨hs0, hs1, hs2, hs3, hs4, hs5⟩ := hSw; (try simp only [List.getElem_toArray, List.getElem_cons_succ, List.getElem_cons_zero, Act.put, List.setIfInBounds_toArray, List.set_cons_zero, List.set_cons_succ]); go_simp; (try (with_reducible rfl)))
  try simp only [List.getElem_toArray, List.getElem_cons_succ, List.getElem_cons_zero, Act.put, List.setIfInBounds_toArray, List.set_cons_zero, List.set_cons_succ]
  refine wpAnyH_take (i := 21) (v := ?vv21_22) rfl (by kernel_rfl) (by kernel_rfl) (by kernel_rfl) (fun _ _ _ h => h) (Or.inl ⟨by rfl, ?yy21_22⟩) (by assumption) ?rr21_22
  case yy21_22 => (intro w hSw; (try dsimp only at hSw); obtain ⟨hs0, hs1, hs2, hs3, hs4, hs5⟩ := hSw; (try simp only [List.getElem_toArray, List.getElem_cons_succ, List.getElem_cons_zero, Act.put, List.setIfInBounds_toArray, List.set_cons_zero, List.set_cons_succ]); go_simp; (try (with_reducible rfl)))
  try simp only [List.getElem_toArray, List.getElem_cons_succ, List.getElem_cons_zero, Act.put, List.setIfInBounds_toArray, List.set_cons_zero, List.set_cons_succ]
  refine wpAnyH_take (i := 22) (v := ?vv22_23) rfl (by kernel_rfl) (by kernel_rfl) (by kernel_rfl) (fun _ _ _ h => h) (Or.inl ⟨by rfl, ?yy22_23⟩) (by assumption) ?rr22_23
  case yy22_23 => (intro w hSw; (try dsimp only at hSw); obtain ⟨hs0, hs1, hs2, hs3, hs4, hs5⟩ := hSw; (try simp only [List.getElem_toArray, List.getElem_cons_succ, List.getElem_cons_zero, Act.put, List.setIfInBounds_toArray, List.set_cons_zero, List.set_cons_succ]); go_simp; (try (with_reducible rfl)))
  try simp only [List.getElem_toArray, List.getElem_cons_succ, List.getElem_cons_zero, Act.put, List.setIfInBounds_toArray, List.set_cons_zero, List.set_cons_succ]
  refine wpAnyH_take (i := 23) (v := ?vv23_24) rfl (by kernel_rfl) (by kernel_rfl) (by kernel_rfl) (fun _ _ _ h => h) (Or.inl ⟨by rfl, ?yy23_24⟩) (by assumption) ?rr23_24
  case yy23_24 => (intro w hSw; (try dsimp only at hSw); obtain ⟨hs0, hs1, hs2, hs3, hs4, hs5⟩ := hSw; (try simp only [List.getElem_toArray, List.getElem_cons_succ, List.getElem_cons_zero, Act.put, List.setIfInBounds_toArray, List.set_cons_zero, List.set_cons_succ]); go_simp; (try (with_reducible rfl)))
  try simp only [List.getElem_toArray, List.getElem_cons_succ, List.getElem_cons_zero, Act.put, List.setIfInBounds_toArray, List.set_cons_zero, List.set_cons_succ]
  refine wpAnyH_take (i := 24) (v := ?vv24_25) rfl (by kernel_rfl) (by kernel_rfl) (by kernel_rfl) (fun _ _ _ h => h) (Or.inl ⟨by rfl, ?yy24_25⟩) (by assumption) ?rr24_25
  case yy24_25 => (intro w hSw; (try dsimp only at hSw); obtain ⟨hs0, hs1, hs2, hs3, hs4, hs5⟩ := hSw; (try simp only [List.getElem_toArray, List.getElem_cons_succ, List.getElem_cons_zero, Act.put, List.setIfInBounds_toArray, List.set_cons_zero, List.set_cons_succ]); go_simp; (try (with_reducible rfl)))
  try simp only [List.getElem_toArray, List.getElem_cons_succ, List.getElem_cons_zero, Act.put, List.setIfInBounds_toArray, List.set_cons_zero, List.set_cons_succ]
  refine wpAnyH_take (i := 25) (v := ?vv25_26) rfl (by kernel_rfl) (by kernel_rfl) (by kernel_rfl) (fun _ _ _ h => h) (Or.inl ⟨by rfl, ?yy25_26⟩) (by assumption) ?rr25_26
  case yy25_26 => (intro w hSw; (try dsimp only at hSw); obtain ⟨hs0, hs1, hs2, hs3, hs4, hs5⟩ := hSw; (try simp only [List.getElem_toArray, List.getElem_cons_succ, List.getElem_cons_zero, Act.put, List.setIfInBounds_toArray, List.set_cons_zero, List.set_cons_succ]); go_simp; (try (with_reducible rfl)))
  try simp only [List.getElem_toArray, List.getElem_cons_succ, List.getElem_cons_zero, Act.put, List.setIfInBounds_toArray, List.set_cons_zero, List.set_cons_succ]
  refine wpAnyH_take (i := 26) (v := ?vv26_27) rfl (by kernel_rfl) (by kernel_rfl) (by kernel_rfl) (fun _ _ _ h => h) (Or.inl ⟨by rfl, ?yy26_27⟩) (by assumption) ?rr26_27
  case yy26_27 => (intro w hSw; (try dsimp only at hSw); obtain ⟨hs0, hs1, hs2, hs3, hs4, hs5⟩ := hSw; (try simp only [List.getElem_toArray, List.getElem_cons_succ, List.getElem_cons_zero, Act.put, List.setIfInBounds_toArray, List.set_cons_zero, List.set_cons_succ]); go_simp; (try (with_reducible rfl)))
  try simp only [List.getElem_toArray, List.getElem_cons_succ, List.getElem_cons_zero, Act.put, List.setIfInBounds_toArray, List.set_cons_zero, List.set_cons_succ]
  refine wpAnyH_take (i := 27) (v := ?vv27_28) rfl (by kernel_rfl) (by kernel_rfl) (by kernel_rfl) (fun _ _ _ h => h) (Or.inl ⟨by rfl, ?yy27_28⟩) (by assumption) ?rr27_28
  case yy27_28 => (intro w hSw; (try dsimp only at hSw); obtain ⟨hs0, hs1, hs2, hs3, hs4, hs5⟩ := hSw; (try simp only [List.getElem_toArray, List.getElem_cons_succ, List.getElem_cons_zero, Act.put, List.setIfInBounds_toArray, List.set_cons_zero, List.set_cons_succ]); go_simp; (try (with_reducible rfl)))
  try simp only [List.getElem_toArray, List.getElem_cons_succ, List.getElem_cons_zero, Act.put, List.setIfInBounds_toArray, List.set_cons_zero, List.set_cons_succ]
  refine wpAnyH_take (i := 28) (v := ?vv28_29) rfl (by kernel_rfl) (by kernel_rfl) (by kernel_rfl) (fun _ _ _ h => h) (Or.inl ⟨by rfl, ?yy28_29⟩) (by assumption) ?rr28_29
  case yy28_29 => (intro w hSw; (try dsimp only at hSw); obtain ⟨hs0, hs1, hs2, hs3, hs4, hs5⟩ := hSw; (try simp only [List.getElem_toArray, List.getElem_cons_succ, List.getElem_cons_zero, Act.put, List.setIfInBounds_toArray, List.set_cons_zero, List.set_cons_succ]); go_simp; (try (with_reducible rfl)))
  try simp only [List.getElem_toArray, List.getElem_cons_succ, List.getElem_cons_zero, Act.put, List.setIfInBounds_toArray, List.set_cons_zero, List.set_cons_succ]
  refine wpAnyH_take (i := 29) (v := ?vv29_30) rfl (by kernel_rfl) (by kernel_rfl) (by kernel_rfl) (fun _ _ _ h => h) (Or.inl ⟨by rfl, ?yy29_30⟩) (by assumption) ?rr29_30
  case yy29_30 => (intro w hSw; (try dsimp only at hSw); obtain ⟨hs0, hs1, hs2, hs3, hs4, hs5⟩ := hSw; (try simp only [List.getElem_toArray, List.getElem_cons_succ, List.getElem_cons_zero, Act.put, List.setIfInBounds_toArray, List.set_cons_zero, List.set_cons_succ]); go_simp; (try (with_reducible rfl)))
  try simp only [List.getElem_toArray, List.getElem_cons_succ, List.getElem_cons_zero, Act.put, List.setIfInBounds_toArray, List.set_cons_zero, List.set_cons_succ]
  refine wpAnyH_take (i := 30) (v := ?vv30_31) rfl (by kernel_rfl) (by kernel_rfl) (by kernel_rfl) (fun _ _ _ h => h) (Or.inl ⟨by rfl, ?yy30_31⟩) (by assumption) ?rr30_31
  case yy30_31 => (intro w hSw; (try dsimp only at hSw); obtain ⟨hs0, hs1, hs2, hs3, hs4, hs5⟩ := hSw; (try simp only [List.getElem_toArray, List.getElem_cons_succ, List.getElem_cons_zero, Act.put, List.setIfInBounds_toArray, List.set_cons_zero, List.set_cons_succ]); go_simp; (try (with_reducible rfl)))
  try simp only [List.getElem_toArray, List.getElem_cons_succ, List.getElem_cons_zero, Act.put, List.setIfInBounds_toArray, List.set_cons_zero, List.set_cons_succ]
  refine wpAnyH_ready (rs := [31]) (by kernel_rfl) (by simp) ?_
  refine AllReadyH.cons (o := _) rfl (fun K hK => ?_) AllReadyH.nil
  try simp only [List.getElem_toArray, List.getElem_cons_succ, List.getElem_cons_zero, Act.put, List.setIfInBounds_toArray, List.set_cons_zero, List.set_cons_succ]
  go_simp
  have HQ : Hid (PAt (setL U w.heap.size (lv p.w)) g p) := PAt.moves HPu.out (setL_moves U w.heap.size (lv p.w)) (by have := HN.out; show ¬ g = w.heap.size; omega)
  refine hK.out _ _ HQ.out.wish (fun hHeld => ?_)
  clear hK K
  try simp only [List.getElem_toArray, List.getElem_cons_succ, List.getElem_cons_zero, Act.put, List.setIfInBounds_toArray, List.set_cons_zero, List.set_cons_succ]
  refine wpAnyH_done (by kernel_rfl) ?_ _
  go_wp2
  have HR : Hid (LAt (setL U w.heap.size (lv p.w)) w.heap.size p.w) := setL_blk HZu.out
  (try simp only [Exit.inBlock, Exit.then])
  refine bodyPost_ret (res_ipc rfl _ _ w.heap.size p.w rfl HR.out rfl (by kernel_rfl)) rfl ?_
  exact ⟨rfl, setL_below HBu.out HBu.out.size (Nat.le_refl _) (lv p.w)⟩
set_option maxHeartbeats 1000000 in
set_option maxRecDepth 100000 in
theorem list_any (x : Ipc) (w : World) (hm : may x = true) : Calls Tryz.prog 44 #[.agg (lv x).toArray] w (CpQ (put x) (put x).length w) := by
  show Calls Tryz.prog 44 #[.agg #[Value.bool x.ha, .int .u32 x.addr.toNat, .bool x.h1, .int .u32 x.dns1.toNat, .bool x.h2, .int .u32 x.dns2.toNat]] w (CpQ (put x) (put x).length w)
  obtain ⟨W, hW, HW⟩ := boxL w x
  obtain ⟨c0, c1, c2, c3, c4, c5⟩ := cells6 HW.out.1
  have HB := Lib.hid HW.out.2.1
  have HC : Hid (∀ U, Calls Tryz.prog 56 #[.agg #[Value.bool x.ha, .int .u32 x.addr.toNat, .bool x.h1, .int .u32 x.dns1.toNat, .bool x.h2, .int .u32 x.dns2.toNat]] U (PutQ x U)) := fun U => put_any x U
  have HM := Lib.hid hm
  clear HW hm
  go_enter Tryz.func44, Tryz.ntmps44
  go_wp2_with fail
  refine (HC.out _).mono ?_
  rintro e w2 ⟨A, c, rfl, hA, hO, hb2⟩
  rw [(pL_yes HM.out).1, (pL_yes HM.out).2] at *
  have HB2 := Lib.hid (HB.out.trans (hb2.mono HB.out.size))
  have HO := Lib.hid hO
  have HA := Lib.hid hA
  clear hb2 hO hA
  go_wp2
  go_ret
  exact ⟨A, c, rfl, HO.out, HA.out, HB2.out⟩
set_option maxHeartbeats 1000000 in
set_option maxRecDepth 100000 in
theorem request_any (g : Nat) (p : Po) (w : World) (h : PAt w g p) (hm : may p.w = true) : Calls Tryz.prog 29 #[.pointer (some ⟨g, 0, none⟩)] w (CpQ (req p) (req p).length w) := by
  have HW := Lib.hid (wish_any g p w h)
  have HL := Lib.hid (fun w => list_any p.w w hm)
  clear h hm
  go_enter Tryz.func29, Tryz.ntmps29
  go_wp2_with fail
  refine HW.out.mono ?_
  rintro e w1 ⟨rfl, hb1⟩
  have HB1 := Lib.hid hb1
  clear hb1
  go_wp2_with fail
  refine (HL.out w1).mono ?_
  rintro e w2 ⟨A, c, rfl, hO, hA, hb2⟩
  have HB2 := Lib.hid (HB1.out.trans (hb2.mono HB1.out.size))
  have HO := Lib.hid hO
  have HA := Lib.hid hA
  clear hb2 hO hA
  go_wp2
  go_ret
  exact ⟨A, c, rfl, HO.out, HA.out, HB2.out⟩
end Go.Proofs.YtikcgcgbcolndaaGreat.Ipp

/- Contracts of Reset, Copy and of every call of a nil policy. -/
set_option linter.unusedSimpArgs false
set_option linter.unusedVariables false
namespace Go.Proofs.YtikcgcgbcolndaaGreat.Ipp
open Go.RowKit Go.Proofs.YtikcgcgbcolndaaGreat.Oct Go.Proofs.YtikcgcgbcolndaaGreat.Row Go.Proofs.YtikcgcgbcolndaaGreat.Mem Go.Proofs.YtikcgcgbcolndaaGreat.Opt Go.Proofs.YtikcgcgbcolndaaGreat.Ipc

set_option maxHeartbeats 4000000 in
set_option maxRecDepth 100000 in
theorem reset_any (g : Nat) (p : Po) (w : World) (h : PAt w g p) : Calls Tryz.prog 267 #[.pointer (some ⟨g, 0, none⟩)] w fun e w' => e = .returned (.int .i64 0) ∧ PAt w' g (newP p.c) ∧ Moves (fun k => k = g) w w' := by
  have HP := Lib.hid h
  have c6 : w.cell? ⟨g, 6, none⟩ = some (Value.int .u32 p.c.addr.toNat) := HP.out.c 6
  have c7 : w.cell? ⟨g, 7, none⟩ = some (Value.int .u32 p.c.peer.toNat) := HP.out.c 7
  have c8 : w.cell? ⟨g, 8, none⟩ = some (Value.int .u32 p.c.dns1.toNat) := HP.out.c 8
  have c9 : w.cell? ⟨g, 9, none⟩ = some (Value.int .u32 p.c.dns2.toNat) := HP.out.c 9
  have c10 : w.cell? ⟨g, 10, none⟩ = some (Value.bool p.c.want) := HP.out.c 10
  have c11 : w.cell? ⟨g, 11, none⟩ = some (Value.int .i64 p.c.mn) := HP.out.c 11
  have HM := Lib.hid (fun w => made_any p.c w)
  have HN := Lib.hid (pol_size (newP p.c))
  have HO := Lib.hid (pv_one (newP p.c))
  have HE : Hid (∀ W : World, PAt W g p → PAt (W.setRow g (pv (newP p.c)).toArray) g (newP p.c)) := fun W hW => pat_row hW _
  have HZ : Hid ((pv p).toArray.size = (pv (newP p.c)).toArray.size) := rfl
  generalize (pv (newP p.c)).toArray = cs at *
  clear h
  go_enter Tryz.func267, Tryz.ntmps267
  go_wp2_with fail
  refine (HM.out _).mono ?_
  rintro e w2 ⟨rfl, hb2⟩
  have HB2 := Lib.hid hb2
  have HP2 := Lib.hid (HP.out.callee hb2)
  clear hb2
  go_wp2_with (refine wpList_store_row rfl 102 _ _ rfl g cs rfl rfl 102 _ HP2.out HN.out HZ.out HO.out ?_)
  go_ret
  exact ⟨rfl, HE.out _ HP2.out, (Moves.of_below HB2.out).trans (moves_row w2 g _) (fun _ _ h => h)⟩
set_option maxHeartbeats 4000000 in
set_option maxRecDepth 100000 in
theorem copy_any (g : Nat) (p : Po) (w : World) (h : PAt w g p) : Calls Tryz.prog 36 #[.pointer (some ⟨g, 0, none⟩)] w fun e w' => ∃ g', e = .returned (.pointer (some ⟨g', 0, none⟩)) ∧ w.heap.size ≤ g' ∧ PAt w' g' p ∧ Below w.heap.size w w' := by
  have HP : Hid (w.heap[g]? = some (.cells (pv p).toArray 102 (0, 0))) := h
  have HN := Lib.hid (pol_size p)
  have HO := Lib.hid (pv_one p)
  have HE : Hid (∀ W : World, PAt (W.alloc (.cells (pv p).toArray 102)) W.heap.size p) := fun W => pat_new W _
  have HZ : Hid ((pv zp).toArray.size = (pv p).toArray.size) := rfl
  have hz := zero_pol
  generalize (pv zp).toArray = zs at *
  generalize (pv p).toArray = cs at *
  clear h
  go_enter Tryz.func36, Tryz.ntmps36
  go_wp2_with (first
    | (refine wpList_load_row rfl 102 _ rfl g rfl 102 cs (0, 0) _ HP.out Tryz.underlying102 rfl HN.out ?_)
    | (refine wpList_store_row rfl 102 _ _ rfl w.heap.size cs rfl rfl 102 zs (World.alloc_heap_new w _) HN.out HZ.out HO.out ?_))
  go_ret
  rw [World.setRow_alloc_new]
  exact ⟨_, rfl, Nat.le_refl _, HE.out w, (Below.refl _ _).alloc (Nat.le_refl _) _⟩

/-! ### nil -/
set_option maxHeartbeats 1000000 in
set_option maxRecDepth 100000 in
theorem judge_nil (w : World) : Calls Tryz.prog 229 #[.pointer none, .slice none 0 0] w fun e w' => e = .returned (.tuple #[.int .u8 0, .slice none 0 0]) ∧ Below w.heap.size w w' := by
  go_enter Tryz.func229, Tryz.ntmps229
  go_wp2
  go_ret2
  exact ⟨rfl, Below.refl _ _⟩
set_option maxHeartbeats 1000000 in
set_option maxRecDepth 100000 in
theorem acked_nil (w : World) : Calls Tryz.prog 228 #[.pointer none, .slice none 0 0] w fun e w' => e = .returned (.bool false) ∧ Below w.heap.size w w' := by
  go_enter Tryz.func228, Tryz.ntmps228
  go_wp2
  go_ret
  exact ⟨rfl, Below.refl _ _⟩
set_option maxHeartbeats 1000000 in
set_option maxRecDepth 100000 in
theorem naked_nil (w : World) : Calls Tryz.prog 266 #[.pointer none, .slice none 0 0] w fun e w' => e = .returned (.bool false) ∧ Below w.heap.size w w' := by
  go_enter Tryz.func266, Tryz.ntmps266
  go_wp2
  go_ret
  exact ⟨rfl, Below.refl _ _⟩
set_option maxHeartbeats 1000000 in
set_option maxRecDepth 100000 in
theorem rejected_nil (w : World) : Calls Tryz.prog 230 #[.pointer none, .slice none 0 0] w fun e w' => e = .returned (.bool false) ∧ Below w.heap.size w w' := by
  go_enter Tryz.func230, Tryz.ntmps230
  go_wp2
  go_ret
  exact ⟨rfl, Below.refl _ _⟩
set_option maxHeartbeats 1000000 in
set_option maxRecDepth 100000 in
theorem reset_nil (w : World) : Calls Tryz.prog 267 #[.pointer none] w fun e w' => e = .returned (.int .i64 1) ∧ Below w.heap.size w w' := by
  go_enter Tryz.func267, Tryz.ntmps267
  go_wp2
  go_ret
  exact ⟨rfl, Below.refl _ _⟩
set_option maxHeartbeats 1000000 in
set_option maxRecDepth 100000 in
theorem copy_nil (w : World) : Calls Tryz.prog 36 #[.pointer none] w fun e w' => e = .returned (.pointer none) ∧ Below w.heap.size w w' := by
  go_enter Tryz.func36, Tryz.ntmps36
  go_wp2
  go_ret
  exact ⟨rfl, Below.refl _ _⟩
set_option maxHeartbeats 1000000 in
set_option maxRecDepth 100000 in
theorem wish_nil (w : World) : Calls Tryz.prog 45 #[.pointer none] w (BetQ lz w) := by
  obtain ⟨V, hV, HV⟩ := boxZ w
  have HN := Lib.hid (ipc_size lz)
  have HZ := Lib.hid HV.out.1
  have HB := Lib.hid HV.out.2.1
  go_enter Tryz.func45, Tryz.ntmps45
  go_wp2_with (refine wpList_store_row rfl 52 _ _ rfl w.heap.size (lv lz).toArray rfl rfl 52 _ HZ.out HN.out rfl (lv_one _) ?_)
  (try simp only [Exit.inBlock, Exit.then])
  refine bodyPost_ret (bet_res rfl _ lz HZ.out rfl) rfl ?_
  exact bet_q lz HB.out (Nat.le_refl _)
set_option maxHeartbeats 1000000 in
set_option maxRecDepth 100000 in
theorem mine_nil (w : World) : Calls Tryz.prog 20 #[.pointer none] w (BetQ lz w) := by
  obtain ⟨V, hV, HV⟩ := boxZ w
  have HN := Lib.hid (ipc_size lz)
  have HZ := Lib.hid HV.out.1
  have HB := Lib.hid HV.out.2.1
  go_enter Tryz.func20, Tryz.ntmps20
  go_wp2_with (refine wpList_store_row rfl 52 _ _ rfl w.heap.size (lv lz).toArray rfl rfl 52 _ HZ.out HN.out rfl (lv_one _) ?_)
  (try simp only [Exit.inBlock, Exit.then])
  refine bodyPost_ret (bet_res rfl _ lz HZ.out rfl) rfl ?_
  exact bet_q lz HB.out (Nat.le_refl _)
set_option maxHeartbeats 1000000 in
set_option maxRecDepth 100000 in
theorem peer_nil (w : World) : Calls Tryz.prog 21 #[.pointer none] w (BetQ lz w) := by
  obtain ⟨V, hV, HV⟩ := boxZ w
  have HN := Lib.hid (ipc_size lz)
  have HZ := Lib.hid HV.out.1
  have HB := Lib.hid HV.out.2.1
  go_enter Tryz.func21, Tryz.ntmps21
  go_wp2_with (refine wpList_store_row rfl 52 _ _ rfl w.heap.size (lv lz).toArray rfl rfl 52 _ HZ.out HN.out rfl (lv_one _) ?_)
  (try simp only [Exit.inBlock, Exit.then])
  refine bodyPost_ret (bet_res rfl _ lz HZ.out rfl) rfl ?_
  exact bet_q lz HB.out (Nat.le_refl _)
set_option maxHeartbeats 1000000 in
set_option maxRecDepth 100000 in
theorem request_nil (w : World) : Calls Tryz.prog 29 #[.pointer none] w (CpQ [] 0 w) := by
  have HW := Lib.hid (wish_nil w)
  have HL : Hid (∀ w, Calls Tryz.prog 44 #[.agg (lv lz).toArray] w (CpQ [] 0 w)) := fun w => list_any lz w rfl
  go_enter Tryz.func29, Tryz.ntmps29
  go_wp2_with fail
  refine HW.out.mono ?_
  rintro e w1 ⟨rfl, hb1⟩
  have HB1 := Lib.hid hb1
  clear hb1
  go_wp2_with fail
  refine (HL.out w1).mono ?_
  rintro e w2 ⟨A, c, rfl, hO, hA, hb2⟩
  have HB2 := Lib.hid (HB1.out.trans (hb2.mono HB1.out.size))
  have HO := Lib.hid hO
  have HA := Lib.hid hA
  clear hb2 hO hA
  go_wp2
  go_ret
  exact ⟨A, c, rfl, HO.out, HA.out, HB2.out⟩
end Go.Proofs.YtikcgcgbcolndaaGreat.Ipp
