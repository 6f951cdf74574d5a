/- Contracts of Reset, Copy and of every call of a nil policy. -/
import Derived.Test.YthoangihndplkaaGIppN
set_option linter.unusedSimpArgs false
set_option linter.unusedVariables false
namespace Go.Proofs.Ythoangihndplkaa.Ipp
open Go.RowKit Go.Proofs.Ythoangihndplkaa.Oct Go.Proofs.Ythoangihndplkaa.Row Go.Proofs.Ythoangihndplkaa.Mem Go.Proofs.Ythoangihndplkaa.Opt Go.Proofs.Ythoangihndplkaa.Ipc

set_option maxHeartbeats 4000000 in
set_option maxRecDepth 100000 in
theorem reset_any (g : Nat) (p : Po) (w : World) (h : PAt w g p) : Calls Try.prog 14 #[.pointer (some ⟨g, 0, none⟩)] w fun e w' => e = .returned (.int .i64 0) ∧ PAt w' g (newP p.c) ∧ Moves (fun k => k = g) w w' := by
  have HP := Lib.hid h
  have c6 : w.cell? ⟨g, 6, none⟩ = some (Value.int .u32 p.c.addr.toNat) := HP.out.c 6
  have c7 : w.cell? ⟨g, 7, none⟩ = some (Value.int .u32 p.c.peer.toNat) := HP.out.c 7
  have c8 : w.cell? ⟨g, 8, none⟩ = some (Value.int .u32 p.c.dns1.toNat) := HP.out.c 8
  have c9 : w.cell? ⟨g, 9, none⟩ = some (Value.int .u32 p.c.dns2.toNat) := HP.out.c 9
  have c10 : w.cell? ⟨g, 10, none⟩ = some (Value.bool p.c.want) := HP.out.c 10
  have c11 : w.cell? ⟨g, 11, none⟩ = some (Value.int .i64 p.c.mn) := HP.out.c 11
  have HM := Lib.hid (fun w => made_any p.c w)
  have HN := Lib.hid (pol_size (newP p.c))
  have HO := Lib.hid (pv_one (newP p.c))
  have HE : Hid (∀ W : World, PAt W g p → PAt (W.setRow g (pv (newP p.c)).toArray) g (newP p.c)) := fun W hW => pat_row hW _
  have HZ : Hid ((pv p).toArray.size = (pv (newP p.c)).toArray.size) := rfl
  generalize (pv (newP p.c)).toArray = cs at *
  clear h
  go_enter Try.func14, Try.ntmps14
  go_wp2_with fail
  refine (HM.out _).mono ?_
  rintro e w2 ⟨rfl, hb2⟩
  have HB2 := Lib.hid hb2
  have HP2 := Lib.hid (HP.out.callee hb2)
  clear hb2
  go_wp2_with (refine wpList_store_row rfl 68 _ _ rfl g cs rfl rfl 68 _ HP2.out HN.out HZ.out HO.out ?_)
  go_ret
  exact ⟨rfl, HE.out _ HP2.out, (Moves.of_below HB2.out).trans (moves_row w2 g _) (fun _ _ h => h)⟩
set_option maxHeartbeats 4000000 in
set_option maxRecDepth 100000 in
theorem copy_any (g : Nat) (p : Po) (w : World) (h : PAt w g p) : Calls Try.prog 15 #[.pointer (some ⟨g, 0, none⟩)] w fun e w' => ∃ g', e = .returned (.pointer (some ⟨g', 0, none⟩)) ∧ w.heap.size ≤ g' ∧ PAt w' g' p ∧ Below w.heap.size w w' := by
  have HP : Hid (w.heap[g]? = some (.cells (pv p).toArray 68 (0, 0))) := h
  have HN := Lib.hid (pol_size p)
  have HO := Lib.hid (pv_one p)
  have HE : Hid (∀ W : World, PAt (W.alloc (.cells (pv p).toArray 68)) W.heap.size p) := fun W => pat_new W _
  have HZ : Hid ((pv zp).toArray.size = (pv p).toArray.size) := rfl
  have hz := zero_pol
  generalize (pv zp).toArray = zs at *
  generalize (pv p).toArray = cs at *
  clear h
  go_enter Try.func15, Try.ntmps15
  go_wp2_with (first
    | (refine wpList_load_row rfl 68 _ rfl g rfl 68 cs (0, 0) _ HP.out Try.underlying68 rfl HN.out ?_)
    | (refine wpList_store_row rfl 68 _ _ rfl w.heap.size cs rfl rfl 68 zs (World.alloc_heap_new w _) HN.out HZ.out HO.out ?_))
  go_ret
  rw [World.setRow_alloc_new]
  exact ⟨_, rfl, Nat.le_refl _, HE.out w, (Below.refl _ _).alloc (Nat.le_refl _) _⟩

/-! ### nil -/
set_option maxHeartbeats 1000000 in
set_option maxRecDepth 100000 in
theorem judge_nil (w : World) : Calls Try.prog 6 #[.pointer none, .slice none 0 0] w fun e w' => e = .returned (.tuple #[.int .u8 0, .slice none 0 0]) ∧ Below w.heap.size w w' := by
  go_enter Try.func6, Try.ntmps6
  go_wp2
  go_ret2
  exact ⟨rfl, Below.refl _ _⟩
set_option maxHeartbeats 1000000 in
set_option maxRecDepth 100000 in
theorem acked_nil (w : World) : Calls Try.prog 8 #[.pointer none, .slice none 0 0] w fun e w' => e = .returned (.bool false) ∧ Below w.heap.size w w' := by
  go_enter Try.func8, Try.ntmps8
  go_wp2
  go_ret
  exact ⟨rfl, Below.refl _ _⟩
set_option maxHeartbeats 1000000 in
set_option maxRecDepth 100000 in
theorem naked_nil (w : World) : Calls Try.prog 9 #[.pointer none, .slice none 0 0] w fun e w' => e = .returned (.bool false) ∧ Below w.heap.size w w' := by
  go_enter Try.func9, Try.ntmps9
  go_wp2
  go_ret
  exact ⟨rfl, Below.refl _ _⟩
set_option maxHeartbeats 1000000 in
set_option maxRecDepth 100000 in
theorem rejected_nil (w : World) : Calls Try.prog 10 #[.pointer none, .slice none 0 0] w fun e w' => e = .returned (.bool false) ∧ Below w.heap.size w w' := by
  go_enter Try.func10, Try.ntmps10
  go_wp2
  go_ret
  exact ⟨rfl, Below.refl _ _⟩
set_option maxHeartbeats 1000000 in
set_option maxRecDepth 100000 in
theorem reset_nil (w : World) : Calls Try.prog 14 #[.pointer none] w fun e w' => e = .returned (.int .i64 1) ∧ Below w.heap.size w w' := by
  go_enter Try.func14, Try.ntmps14
  go_wp2
  go_ret
  exact ⟨rfl, Below.refl _ _⟩
set_option maxHeartbeats 1000000 in
set_option maxRecDepth 100000 in
theorem copy_nil (w : World) : Calls Try.prog 15 #[.pointer none] w fun e w' => e = .returned (.pointer none) ∧ Below w.heap.size w w' := by
  go_enter Try.func15, Try.ntmps15
  go_wp2
  go_ret
  exact ⟨rfl, Below.refl _ _⟩
set_option maxHeartbeats 1000000 in
set_option maxRecDepth 100000 in
theorem wish_nil (w : World) : Calls Try.prog 11 #[.pointer none] w (BetQ lz w) := by
  obtain ⟨V, hV, HV⟩ := boxZ w
  have HN := Lib.hid (ipc_size lz)
  have HZ := Lib.hid HV.out.1
  have HB := Lib.hid HV.out.2.1
  go_enter Try.func11, Try.ntmps11
  go_wp2_with (refine wpList_store_row rfl 35 _ _ rfl w.heap.size (lv lz).toArray rfl rfl 35 _ HZ.out HN.out rfl (lv_one _) ?_)
  (try simp only [Exit.inBlock, Exit.then])
  refine bodyPost_ret (bet_res rfl _ lz HZ.out rfl) rfl ?_
  exact bet_q lz HB.out (Nat.le_refl _)
set_option maxHeartbeats 1000000 in
set_option maxRecDepth 100000 in
theorem mine_nil (w : World) : Calls Try.prog 12 #[.pointer none] w (BetQ lz w) := by
  obtain ⟨V, hV, HV⟩ := boxZ w
  have HN := Lib.hid (ipc_size lz)
  have HZ := Lib.hid HV.out.1
  have HB := Lib.hid HV.out.2.1
  go_enter Try.func12, Try.ntmps12
  go_wp2_with (refine wpList_store_row rfl 35 _ _ rfl w.heap.size (lv lz).toArray rfl rfl 35 _ HZ.out HN.out rfl (lv_one _) ?_)
  (try simp only [Exit.inBlock, Exit.then])
  refine bodyPost_ret (bet_res rfl _ lz HZ.out rfl) rfl ?_
  exact bet_q lz HB.out (Nat.le_refl _)
set_option maxHeartbeats 1000000 in
set_option maxRecDepth 100000 in
theorem peer_nil (w : World) : Calls Try.prog 13 #[.pointer none] w (BetQ lz w) := by
  obtain ⟨V, hV, HV⟩ := boxZ w
  have HN := Lib.hid (ipc_size lz)
  have HZ := Lib.hid HV.out.1
  have HB := Lib.hid HV.out.2.1
  go_enter Try.func13, Try.ntmps13
  go_wp2_with (refine wpList_store_row rfl 35 _ _ rfl w.heap.size (lv lz).toArray rfl rfl 35 _ HZ.out HN.out rfl (lv_one _) ?_)
  (try simp only [Exit.inBlock, Exit.then])
  refine bodyPost_ret (bet_res rfl _ lz HZ.out rfl) rfl ?_
  exact bet_q lz HB.out (Nat.le_refl _)
set_option maxHeartbeats 1000000 in
set_option maxRecDepth 100000 in
theorem request_nil (w : World) : Calls Try.prog 7 #[.pointer none] w (CpQ [] 0 w) := by
  have HW := Lib.hid (wish_nil w)
  have HL : Hid (∀ w, Calls Try.prog 33 #[.agg (lv lz).toArray] w (CpQ [] 0 w)) := fun w => list_any lz w rfl
  go_enter Try.func7, Try.ntmps7
  go_wp2_with fail
  refine HW.out.mono ?_
  rintro e w1 ⟨rfl, hb1⟩
  have HB1 := Lib.hid hb1
  clear hb1
  go_wp2_with fail
  refine (HL.out w1).mono ?_
  rintro e w2 ⟨A, c, rfl, hO, hA, hb2⟩
  have HB2 := Lib.hid (HB1.out.trans (hb2.mono HB1.out.size))
  have HO := Lib.hid hO
  have HA := Lib.hid hA
  clear hb2 hO hA
  go_wp2
  go_ret
  exact ⟨A, c, rfl, HO.out, HA.out, HB2.out⟩
end Go.Proofs.Ythoangihndplkaa.Ipp
