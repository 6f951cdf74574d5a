/- Contracts: cmp.Or at numbers, the functions that better an option. -/
import Derived.Test.YtikcgcgbcolndaaGreatIppMem
import Derived.Deep.RegionHeld3
namespace Go.Proofs.YtikcgcgbcolndaaGreat.Ipp
open Go.RowKit Go.Proofs.YtikcgcgbcolndaaGreat.Oct Go.Proofs.YtikcgcgbcolndaaGreat.Row Go.Proofs.YtikcgcgbcolndaaGreat.Mem Go.Proofs.YtikcgcgbcolndaaGreat.Opt Go.Proofs.YtikcgcgbcolndaaGreat.Ipc

theorem cell_alloc {w : World} {p : Addr} {v : Value} (h : w.cell? p = some v) (o : Obj) : (w.alloc o).cell? p = some v := (((Below.refl _ w).alloc (Nat.le_refl _) o).cell (World.block_lt_of_cell? _ _ h)).trans h
/-- Two numbers in a block. -/
def Two32 (w : World) (g : Nat) (a b : UInt32) : Prop := Blk w g [.int .u32 a.toNat, .int .u32 b.toNat] 23
set_option maxHeartbeats 1000000 in
set_option maxRecDepth 100000 in
theorem or_any (a b : UInt32) (g : Nat) (w : World) (h : Two32 w g a b) : Calls Tryz.prog 249 #[.slice (some ⟨g, 0, none⟩) 2 2] w fun e w' => e = .returned (.int .u32 (or32 a b).toNat) ∧ w' = w := by
  have c0 : w.cell? ⟨g, 0, none⟩ = some (.int .u32 a.toNat) := Blk.at_ h 0
  have c1 : w.cell? ⟨g, 1, none⟩ = some (.int .u32 b.toNat) := Blk.at_ h 1
  have ha := u32_ne0 a
  have hb := u32_ne0 b
  clear h
  go_enter Tryz.func249, Tryz.ntmps249
  go_wp2
  go_loopw [8] (fun i wr => ∃ k : Nat, k ≤ 2 ∧ i = .int .i64 k ∧ Hid ((1 ≤ k → a = 0) ∧ (k = 2 → b = 0)) ∧ w = wr) (fun i _ => 2 - (intOf i).toNat)
  case atStart => exact ⟨0, Nat.zero_le _, rfl, ⟨fun h => absurd h (by omega), fun h => absurd h (by omega)⟩, rfl⟩
  case round =>
    obtain ⟨k, hk, rfl, HT, rfl⟩ := hrel
    by_cases h0 : k = 0
    · subst h0
      clear hk
      cases e : (a != 0)
      · rw [e] at ha
        have HA : Hid (a = 0) := bne0 e
        clear e
        go_wp2
        go_roundw
        case rel => exact ⟨1, by omega, by go_num, ⟨fun _ => HA.out, fun h => absurd h (by omega)⟩, by trivial⟩
        case measure => simp [intOf]
      · rw [e] at ha
        have HA : Hid (or32 a b = a) := if_neg (bne_iff_ne.1 e)
        clear e
        go_wp2
        go_ret
        exact ⟨by rw [HA.out] <;> rfl, rfl⟩
    · by_cases h1 : k = 1
      · subst h1
        have HA : Hid (or32 a b = b) := if_pos (HT.out.1 (Nat.le_refl _))
        clear hk h0
        cases e : (b != 0)
        · rw [e] at hb
          have HA : Hid (b = 0) := bne0 e
          clear e
          go_wp2
          go_roundw
          case rel => exact ⟨2, by omega, by go_num, ⟨fun _ => HT.out.1 (Nat.le_refl _), fun _ => HA.out⟩, by trivial⟩
          case measure => simp [intOf]
        · rw [e] at hb
          clear e
          go_wp2
          go_ret
          exact ⟨by rw [HA.out] <;> rfl, rfl⟩
      · obtain rfl : k = 2 := by omega
        have HA : Hid (or32 a b = 0) := by
          show _ = _
          rw [show or32 a b = b from if_pos (HT.out.1 (by omega)), HT.out.2 rfl]
        clear hk h0 h1
        go_wp2
        go_ret
        exact ⟨by rw [HA.out] <;> rfl, rfl⟩
set_option maxHeartbeats 2000000 in
set_option maxRecDepth 100000 in
theorem bet_addr (g : Nat) (p : Po) (x : Ipc) (w : World) (h : PAt w g p) : Calls Tryz.prog 243 #[.pointer (some ⟨g, 0, none⟩), .agg (lv x).toArray] w (BetQ (bet p 3 x) w) := by
  show Calls Tryz.prog 243 #[.pointer (some ⟨g, 0, none⟩), .agg #[Value.bool x.ha, .int .u32 x.addr.toNat, .bool x.h1, .int .u32 x.dns1.toNat, .bool x.h2, .int .u32 x.dns2.toNat]] w (BetQ ⟨or32 p.c.peer x.addr != 0, or32 p.c.peer x.addr, false, 0, false, 0⟩ w)
  obtain ⟨W, hW, HW⟩ := boxL2 w x
  have C1 := Lib.hid (or_any p.c.peer x.addr)
  obtain ⟨v, hv⟩ : ∃ v, or32 p.c.peer x.addr = v := ⟨_, rfl⟩
  rw [hv] at C1 ⊢
  clear hv
  have hn := u32_ne0 v
  have HP : Hid (PAt W g p) := h.callee HW.out.2.2
  have HB := Lib.hid HW.out.2.2
  have HZ := Lib.hid HW.out.2.1
  have p7 : W.drew.cell? ⟨g, 7, none⟩ = some (.int .u32 p.c.peer.toNat) := HP.out.c 7
  have x1 : W.drew.cell? ⟨w.heap.size, 1, none⟩ = some (.int .u32 x.addr.toNat) := HW.out.1.c 1
  have HA : Hid (∀ U : World, Two32 (U.alloc (.cells #[.int .u32 p.c.peer.toNat, .int .u32 x.addr.toNat] 23)).drew U.heap.size p.c.peer x.addr) := fun U => blk_new U [.int .u32 p.c.peer.toNat, .int .u32 x.addr.toNat] _
  clear h HW
  go_enter Tryz.func243, Tryz.ntmps243
  go_wp2
  clear hW
  go_region_held3 (fun w' => w'.cell? ⟨g, 7, none⟩ = some (.int .u32 p.c.peer.toNat) ∧ w'.cell? ⟨w.heap.size, 1, none⟩ = some (.int .u32 x.addr.toNat))
    (first | assumption | (refine ⟨?_, ?_⟩ <;> assumption) | (go_split_ands; refine ⟨?_, ?_⟩ <;> assumption) | (go_split_ands; refine ⟨?_, ?_⟩ <;> (apply cell_alloc; assumption)))
    (first
      | (go_at_call 249; (refine (C1.out _ _ (HA.out _)).mono ?_; rintro e w6 ⟨rfl, rfl⟩; have HB6 := Lib.hid (HB.out.alloc HB.out.size (.cells #[.int .u32 p.c.peer.toNat, .int .u32 x.addr.toNat] 23)).drew; have HZ6 : Hid (LAt (W.alloc (.cells #[.int .u32 p.c.peer.toNat, .int .u32 x.addr.toNat] 23)).drew (w.heap.size + 1) lz) := Blk.drew (HZ.out.alloc (.cells #[.int .u32 p.c.peer.toNat, .int .u32 x.addr.toNat] 23))))
      | fail)
  generalize (W.alloc (.cells #[.int .u32 p.c.peer.toNat, .int .u32 x.addr.toNat] 23)).drew = U at *
  go_wp2_with (first
    | (refine wpList_store_row rfl 52 _ _ rfl (w.heap.size + 1) (lv ⟨v != 0, v, false, 0, false, 0⟩).toArray rfl rfl 52 _ HZ6.out (ipc_size _) rfl (lv_one _) ?_))
  (try simp only [Exit.inBlock, Exit.then])
  refine bodyPost_ret (bet_res rfl _ _ HZ6.out rfl) rfl ?_
  exact bet_q _ HB6.out (Nat.le_succ _)
set_option maxHeartbeats 2000000 in
set_option maxRecDepth 100000 in
theorem bet_dns1 (g : Nat) (p : Po) (x : Ipc) (w : World) (h : PAt w g p) : Calls Tryz.prog 247 #[.pointer (some ⟨g, 0, none⟩), .agg (lv x).toArray] w (BetQ (bet p 129 x) w) := by
  show Calls Tryz.prog 247 #[.pointer (some ⟨g, 0, none⟩), .agg #[Value.bool x.ha, .int .u32 x.addr.toNat, .bool x.h1, .int .u32 x.dns1.toNat, .bool x.h2, .int .u32 x.dns2.toNat]] w (BetQ ⟨false, 0, p.c.dns1 != 0, p.c.dns1, false, 0⟩ w)
  obtain ⟨W, hW, HW⟩ := boxL2 w x
  have HP : Hid (PAt W g p) := h.callee HW.out.2.2
  have HB := Lib.hid HW.out.2.2
  have HZ : Hid (LAt W (w.heap.size + 1) lz) := HW.out.2.1
  have HS := Lib.hid HW.out.2.2.size
  have hgl : ¬ g = w.heap.size + 1 := by have := h.lt; omega
  have hgl2 : ¬ w.heap.size + 1 = g := fun e => hgl e.symm
  obtain ⟨v, hv⟩ : ∃ v, p.c.dns1 = v := ⟨_, rfl⟩
  have hn := u32_ne0 v
  have pc : W.cell? ⟨g, 8, none⟩ = some (.int .u32 v.toNat) := by rw [← hv]; exact HP.out.c 8
  rw [hv]
  obtain ⟨z0, z1, z2, z3, z4, z5⟩ := cells6 HW.out.2.1
  have f0 := HW.out.2.1.f 0
  have f1 := HW.out.2.1.f 1
  have f2 := HW.out.2.1.f 2
  have f3 := HW.out.2.1.f 3
  have f4 := HW.out.2.1.f 4
  have f5 := HW.out.2.1.f 5
  clear h HW hv
  go_enter Tryz.func247, Tryz.ntmps247
  go_wp2
  clear hW
  go_region
  go_wp2
  (try simp only [Exit.inBlock, Exit.then])
  have HF := Lib.hid ((((((Blk.set HZ.out 0 (.bool false)).set 1 (.int .u32 0)).set 2 (.bool (v != 0))).set 3 (.int .u32 v.toNat)).set 4 (.bool false)).set 5 (.int .u32 0))
  have HE := Lib.hid ((((((HB.out.setCell (p := ⟨w.heap.size + 1, 0, none⟩) (Nat.le_succ _) (.bool false)).setCell (p := ⟨w.heap.size + 1, 1, none⟩) (Nat.le_succ _) (.int .u32 0)).setCell (p := ⟨w.heap.size + 1, 2, none⟩) (Nat.le_succ _) (.bool (v != 0))).setCell (p := ⟨w.heap.size + 1, 3, none⟩) (Nat.le_succ _) (.int .u32 v.toNat)).setCell (p := ⟨w.heap.size + 1, 4, none⟩) (Nat.le_succ _) (.bool false)).setCell (p := ⟨w.heap.size + 1, 5, none⟩) (Nat.le_succ _) (.int .u32 0))
  refine bodyPost_ret (results_cell_row rfl _ _ (w.heap.size + 1) _ _ _ _ rfl (Blk.drew HF.out) Tryz.underlying52 rfl (by kernel_rfl)) rfl ?_
  exact ⟨rfl, HE.out.drew⟩
set_option maxHeartbeats 2000000 in
set_option maxRecDepth 100000 in
theorem bet_dns2 (g : Nat) (p : Po) (x : Ipc) (w : World) (h : PAt w g p) : Calls Tryz.prog 251 #[.pointer (some ⟨g, 0, none⟩), .agg (lv x).toArray] w (BetQ (bet p 131 x) w) := by
  show Calls Tryz.prog 251 #[.pointer (some ⟨g, 0, none⟩), .agg #[Value.bool x.ha, .int .u32 x.addr.toNat, .bool x.h1, .int .u32 x.dns1.toNat, .bool x.h2, .int .u32 x.dns2.toNat]] w (BetQ ⟨false, 0, false, 0, p.c.dns2 != 0, p.c.dns2⟩ w)
  obtain ⟨W, hW, HW⟩ := boxL2 w x
  have HP : Hid (PAt W g p) := h.callee HW.out.2.2
  have HB := Lib.hid HW.out.2.2
  have HZ : Hid (LAt W (w.heap.size + 1) lz) := HW.out.2.1
  have HS := Lib.hid HW.out.2.2.size
  have hgl : ¬ g = w.heap.size + 1 := by have := h.lt; omega
  have hgl2 : ¬ w.heap.size + 1 = g := fun e => hgl e.symm
  obtain ⟨v, hv⟩ : ∃ v, p.c.dns2 = v := ⟨_, rfl⟩
  have hn := u32_ne0 v
  have pc : W.cell? ⟨g, 9, none⟩ = some (.int .u32 v.toNat) := by rw [← hv]; exact HP.out.c 9
  rw [hv]
  obtain ⟨z0, z1, z2, z3, z4, z5⟩ := cells6 HW.out.2.1
  have f0 := HW.out.2.1.f 0
  have f1 := HW.out.2.1.f 1
  have f2 := HW.out.2.1.f 2
  have f3 := HW.out.2.1.f 3
  have f4 := HW.out.2.1.f 4
  have f5 := HW.out.2.1.f 5
  clear h HW hv
  go_enter Tryz.func251, Tryz.ntmps251
  go_wp2
  clear hW
  go_region
  go_wp2
  (try simp only [Exit.inBlock, Exit.then])
  have HF := Lib.hid ((((((Blk.set HZ.out 0 (.bool false)).set 1 (.int .u32 0)).set 2 (.bool false)).set 3 (.int .u32 0)).set 4 (.bool (v != 0))).set 5 (.int .u32 v.toNat))
  have HE := Lib.hid ((((((HB.out.setCell (p := ⟨w.heap.size + 1, 0, none⟩) (Nat.le_succ _) (.bool false)).setCell (p := ⟨w.heap.size + 1, 1, none⟩) (Nat.le_succ _) (.int .u32 0)).setCell (p := ⟨w.heap.size + 1, 2, none⟩) (Nat.le_succ _) (.bool false)).setCell (p := ⟨w.heap.size + 1, 3, none⟩) (Nat.le_succ _) (.int .u32 0)).setCell (p := ⟨w.heap.size + 1, 4, none⟩) (Nat.le_succ _) (.bool (v != 0))).setCell (p := ⟨w.heap.size + 1, 5, none⟩) (Nat.le_succ _) (.int .u32 v.toNat))
  refine bodyPost_ret (results_cell_row rfl _ _ (w.heap.size + 1) _ _ _ _ rfl (Blk.drew HF.out) Tryz.underlying52 rfl (by kernel_rfl)) rfl ?_
  exact ⟨rfl, HE.out.drew⟩
end Go.Proofs.YtikcgcgbcolndaaGreat.Ipp
