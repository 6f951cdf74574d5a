/- The struct in a block; contracts of ipcpopt's meanings and of their six functions. -/
import Derived.Test.YtikcgcgbcolndaaGreatIpcPure
import Derived.Test.YtikcgcgbcolndaaGreatOptAt
import Derived.Test.YtikcgcgbcolndaaGreatG1
import Derived.Deep.RegionHeld3
import Derived.RegionTactic
import Derived.BigQuiet
import Derived.Laws.EntriesVeiled
namespace Go.Proofs.YtikcgcgbcolndaaGreat.Ipc
open Go.RowKit Go.Proofs.YtikcgcgbcolndaaGreat.Oct Go.Proofs.YtikcgcgbcolndaaGreat.Row Go.Proofs.YtikcgcgbcolndaaGreat.Mem Go.Proofs.YtikcgcgbcolndaaGreat.Opt

/-- The struct lies in block g. -/
def LAt (W : World) (g : Nat) (x : Ipc) : Prop := Blk W g (lv x) 52
theorem LAt.callee {W W' : World} {g : Nat} {x : Ipc} (h : LAt W g x) (hb : Below W.heap.size W W') : LAt W' g x := Blk.callee h hb
theorem LAt.below {W W' : World} {g n : Nat} {x : Ipc} (h : LAt W g x) (hb : Below n W W') (hg : g < n) : LAt W' g x := Blk.below h hb hg
theorem LAt.alloc {W : World} {g : Nat} {x : Ipc} (h : LAt W g x) (o : Obj) : LAt (W.alloc o) g x := Blk.alloc h o
theorem LAt.lt {W : World} {g : Nat} {x : Ipc} (h : LAt W g x) : g < W.heap.size := Blk.lt h
theorem lat_new (W : World) (x : Ipc) : LAt (W.alloc (.cells (lv x).toArray 52)) W.heap.size x := blk_new W (lv x) _
theorem LAt.c {W : World} {g : Nat} {x : Ipc} (h : LAt W g x) (i : Nat) : W.cell? ⟨g, i, none⟩ = (lv x)[i]? := Blk.at_ h i
theorem LAt.f {W : World} {g : Nat} {x : Ipc} (h : LAt W g x) (i : Nat) : W.frozen? ⟨g, i, none⟩ = false := Blk.frozen h i
/-- A struct of six cells in a block, once it is boxed. -/
theorem boxL (w : World) (x : Ipc) : ∃ W, w.alloc (.cells #[Value.bool x.ha, .int .u32 x.addr.toNat, .bool x.h1, .int .u32 x.dns1.toNat, .bool x.h2, .int .u32 x.dns2.toNat] 52) = W ∧ Hid (LAt W w.heap.size x ∧ Below w.heap.size w W ∧ W.heap.size = w.heap.size + 1) :=
  ⟨_, rfl, lat_new w x, (Below.refl w.heap.size w).alloc (Nat.le_refl _) _, by simp⟩
/-- .. and the named result behind it. -/
theorem boxL2 (w : World) (x : Ipc) : ∃ W, (w.alloc (.cells #[Value.bool x.ha, .int .u32 x.addr.toNat, .bool x.h1, .int .u32 x.dns1.toNat, .bool x.h2, .int .u32 x.dns2.toNat] 52)).alloc (.cells #[Value.bool false, .int .u32 0, .bool false, .int .u32 0, .bool false, .int .u32 0] 52) = W ∧ Hid (LAt W w.heap.size x ∧ LAt W (w.heap.size + 1) lz ∧ Below w.heap.size w W) :=
  ⟨_, rfl, (lat_new w x).alloc _, by have := lat_new (w.alloc (.cells (lv x).toArray 52)) lz; rw [show (w.alloc (.cells (lv x).toArray 52)).heap.size = w.heap.size + 1 by simp] at this; exact this, ((Below.refl w.heap.size w).alloc (Nat.le_refl _) _).alloc (by simp) _⟩
/-- A struct is laid over another one. -/
def setL (W : World) (g : Nat) (c : List Value) : World :=
  (((((W.setCell ⟨g, 0, none⟩ (c.getD 0 undef)).setCell ⟨g, 1, none⟩ (c.getD 1 undef)).setCell ⟨g, 2, none⟩ (c.getD 2 undef)).setCell ⟨g, 3, none⟩ (c.getD 3 undef)).setCell ⟨g, 4, none⟩ (c.getD 4 undef)).setCell ⟨g, 5, none⟩ (c.getD 5 undef)
theorem setL_blk {W : World} {g : Nat} {x y : Ipc} (h : LAt W g x) : LAt (setL W g (lv y)) g y :=
  (((((Blk.set h 0 (.bool y.ha)).set 1 (.int .u32 y.addr.toNat)).set 2 (.bool y.h1)).set 3 (.int .u32 y.dns1.toNat)).set 4 (.bool y.h2)).set 5 (.int .u32 y.dns2.toNat)
theorem setL_moves (W : World) (g : Nat) (c : List Value) : Moves (fun k => k = g) W (setL W g c) :=
  (((((((Moves.refl (fun k => k = g) W).setCell ⟨g, 0, none⟩ (fun _ => rfl) _).setCell ⟨g, 1, none⟩ (fun _ => rfl) _).setCell ⟨g, 2, none⟩ (fun _ => rfl) _).setCell ⟨g, 3, none⟩ (fun _ => rfl) _).setCell ⟨g, 4, none⟩ (fun _ => rfl) _).setCell ⟨g, 5, none⟩ (fun _ => rfl) _)
theorem setL_below {W w : World} {g n : Nat} (h : Below n w W) (hn : n ≤ W.heap.size) (hg : n ≤ g) (c : List Value) : Below n w (setL W g c) :=
  h.trans ((setL_moves W g c).below hn (fun k e => by subst e; exact hg))

theorem blk_other {w : World} {k : Nat} {cs : List Value} {t : TypeId} (h : Blk w k cs t) {p : Addr} (hk : k ≠ p.block) (u : Value) : Blk (w.setCell p u) k cs t := (Below.heap_setCell w p u k hk).trans h
/-- What 'said' answers. -/
def SaidQ (t : UInt8) (x : Ipc) (w : World) (e : Ending) (w' : World) : Prop := e = .returned (.tuple #[.int .u32 (adr t x).toNat, .bool (has t x)]) ∧ Below w.heap.size w w'
/-- What 'with' answers. -/
def WithQ (t : UInt8) (x : Ipc) (v : UInt32) (w : World) (e : Ending) (w' : World) : Prop := e = .returned (.agg (lv (set t x v)).toArray) ∧ Below w.heap.size w w'
set_option maxRecDepth 100000 in
theorem said1 (x : Ipc) (w : World) : Calls Tryz.prog 91 #[.agg #[Value.bool x.ha, .int .u32 x.addr.toNat, .bool x.h1, .int .u32 x.dns1.toNat, .bool x.h2, .int .u32 x.dns2.toNat]] w (SaidQ 3 x w) := by
  show Calls Tryz.prog 91 #[.agg #[Value.bool x.ha, .int .u32 x.addr.toNat, .bool x.h1, .int .u32 x.dns1.toNat, .bool x.h2, .int .u32 x.dns2.toNat]] w fun e w' => e = .returned (.tuple #[.int .u32 x.addr.toNat, .bool x.ha]) ∧ Below w.heap.size w w'
  obtain ⟨W, hW, HW⟩ := boxL w x
  have HB := Lib.hid HW.out.2.1
  have c1 : W.cell? ⟨w.heap.size, 1, none⟩ = some (.int .u32 x.addr.toNat) := HW.out.1.c 1
  have c2 : W.cell? ⟨w.heap.size, 0, none⟩ = some (.bool x.ha) := HW.out.1.c 0
  clear HW
  go_enter Tryz.func91, Tryz.ntmps91
  go_wp2
  clear hW
  go_quiet (fail)
  go_wp2
  go_ret2
  exact ⟨rfl, HB.out.drewN' _⟩
set_option maxRecDepth 100000 in
theorem said2 (x : Ipc) (w : World) : Calls Tryz.prog 93 #[.agg #[Value.bool x.ha, .int .u32 x.addr.toNat, .bool x.h1, .int .u32 x.dns1.toNat, .bool x.h2, .int .u32 x.dns2.toNat]] w (SaidQ 129 x w) := by
  show Calls Tryz.prog 93 #[.agg #[Value.bool x.ha, .int .u32 x.addr.toNat, .bool x.h1, .int .u32 x.dns1.toNat, .bool x.h2, .int .u32 x.dns2.toNat]] w fun e w' => e = .returned (.tuple #[.int .u32 x.dns1.toNat, .bool x.h1]) ∧ Below w.heap.size w w'
  obtain ⟨W, hW, HW⟩ := boxL w x
  have HB := Lib.hid HW.out.2.1
  have c1 : W.cell? ⟨w.heap.size, 3, none⟩ = some (.int .u32 x.dns1.toNat) := HW.out.1.c 3
  have c2 : W.cell? ⟨w.heap.size, 2, none⟩ = some (.bool x.h1) := HW.out.1.c 2
  clear HW
  go_enter Tryz.func93, Tryz.ntmps93
  go_wp2
  clear hW
  go_quiet (fail)
  go_wp2
  go_ret2
  exact ⟨rfl, HB.out.drewN' _⟩
set_option maxRecDepth 100000 in
theorem said3 (x : Ipc) (w : World) : Calls Tryz.prog 95 #[.agg #[Value.bool x.ha, .int .u32 x.addr.toNat, .bool x.h1, .int .u32 x.dns1.toNat, .bool x.h2, .int .u32 x.dns2.toNat]] w (SaidQ 131 x w) := by
  show Calls Tryz.prog 95 #[.agg #[Value.bool x.ha, .int .u32 x.addr.toNat, .bool x.h1, .int .u32 x.dns1.toNat, .bool x.h2, .int .u32 x.dns2.toNat]] w fun e w' => e = .returned (.tuple #[.int .u32 x.dns2.toNat, .bool x.h2]) ∧ Below w.heap.size w w'
  obtain ⟨W, hW, HW⟩ := boxL w x
  have HB := Lib.hid HW.out.2.1
  have c1 : W.cell? ⟨w.heap.size, 5, none⟩ = some (.int .u32 x.dns2.toNat) := HW.out.1.c 5
  have c2 : W.cell? ⟨w.heap.size, 4, none⟩ = some (.bool x.h2) := HW.out.1.c 4
  clear HW
  go_enter Tryz.func95, Tryz.ntmps95
  go_wp2
  clear hW
  go_quiet (fail)
  go_wp2
  go_ret2
  exact ⟨rfl, HB.out.drewN' _⟩
set_option maxHeartbeats 1000000 in
set_option maxRecDepth 100000 in
theorem with1 (x : Ipc) (v : UInt32) (w : World) : Calls Tryz.prog 92 #[.agg #[Value.bool x.ha, .int .u32 x.addr.toNat, .bool x.h1, .int .u32 x.dns1.toNat, .bool x.h2, .int .u32 x.dns2.toNat], .int .u32 v.toNat] w (WithQ 3 x v w) := by
  show Calls Tryz.prog 92 #[.agg #[Value.bool x.ha, .int .u32 x.addr.toNat, .bool x.h1, .int .u32 x.dns1.toNat, .bool x.h2, .int .u32 x.dns2.toNat], .int .u32 v.toNat] w fun e w' => e = .returned (.agg #[Value.bool true, .int .u32 v.toNat, .bool x.h1, .int .u32 x.dns1.toNat, .bool x.h2, .int .u32 x.dns2.toNat]) ∧ Below w.heap.size w w'
  obtain ⟨W, hW, HW⟩ := boxL2 w x
  have HX := Lib.hid HW.out.1
  have HZ := Lib.hid HW.out.2.1
  have HB := Lib.hid HW.out.2.2
  clear HW
  have c0 : W.cell? ⟨w.heap.size, 0, none⟩ = some (Value.bool x.ha) := HX.out.c 0
  have c1 : W.cell? ⟨w.heap.size, 1, none⟩ = some (.int .u32 x.addr.toNat) := HX.out.c 1
  have c2 : W.cell? ⟨w.heap.size, 2, none⟩ = some (.bool x.h1) := HX.out.c 2
  have c3 : W.cell? ⟨w.heap.size, 3, none⟩ = some (.int .u32 x.dns1.toNat) := HX.out.c 3
  have c4 : W.cell? ⟨w.heap.size, 4, none⟩ = some (.bool x.h2) := HX.out.c 4
  have c5 : W.cell? ⟨w.heap.size, 5, none⟩ = some (.int .u32 x.dns2.toNat) := HX.out.c 5
  have f0 : W.frozen? ⟨w.heap.size, 0, none⟩ = false := HX.out.f 0
  have f1 : W.frozen? ⟨w.heap.size, 1, none⟩ = false := HX.out.f 1
  have d0 : W.cell? ⟨w.heap.size + 1, 0, none⟩ = some (Value.bool false) := HZ.out.c 0
  have g0 : W.frozen? ⟨w.heap.size + 1, 0, none⟩ = false := HZ.out.f 0
  have d1 : W.cell? ⟨w.heap.size + 1, 1, none⟩ = some (.int .u32 0) := HZ.out.c 1
  have g1 : W.frozen? ⟨w.heap.size + 1, 1, none⟩ = false := HZ.out.f 1
  have d2 : W.cell? ⟨w.heap.size + 1, 2, none⟩ = some (.bool false) := HZ.out.c 2
  have g2 : W.frozen? ⟨w.heap.size + 1, 2, none⟩ = false := HZ.out.f 2
  have d3 : W.cell? ⟨w.heap.size + 1, 3, none⟩ = some (.int .u32 0) := HZ.out.c 3
  have g3 : W.frozen? ⟨w.heap.size + 1, 3, none⟩ = false := HZ.out.f 3
  have d4 : W.cell? ⟨w.heap.size + 1, 4, none⟩ = some (.bool false) := HZ.out.c 4
  have g4 : W.frozen? ⟨w.heap.size + 1, 4, none⟩ = false := HZ.out.f 4
  have d5 : W.cell? ⟨w.heap.size + 1, 5, none⟩ = some (.int .u32 0) := HZ.out.c 5
  have g5 : W.frozen? ⟨w.heap.size + 1, 5, none⟩ = false := HZ.out.f 5
  go_enter Tryz.func92, Tryz.ntmps92
  go_wp2
  have HZ2 := Lib.hid (blk_other (blk_other HZ.out (p := ⟨w.heap.size, 0, none⟩) (show w.heap.size + 1 ≠ w.heap.size by omega) (.bool true)) (p := ⟨w.heap.size, 1, none⟩) (show w.heap.size + 1 ≠ w.heap.size by omega) (.int .u32 v.toNat))
  have HR := setL_blk (y := set 3 x v) HZ2.out
  have HB2 := (HB.out.setCell (p := ⟨w.heap.size, 0, none⟩) (Nat.le_refl _) (.bool true)).setCell (p := ⟨w.heap.size, 1, none⟩) (Nat.le_refl _) (.int .u32 v.toNat)
  have HBe := setL_below HB2 HB2.size (g := w.heap.size + 1) (Nat.le_succ _) (lv (set 3 x v))
  refine bodyPost_ret (results_cell_row rfl _ _ (w.heap.size + 1) _ _ _ _ rfl HR Tryz.underlying52 rfl (by kernel_rfl)) rfl ?_
  exact ⟨rfl, HBe⟩
set_option maxHeartbeats 1000000 in
set_option maxRecDepth 100000 in
theorem with2 (x : Ipc) (v : UInt32) (w : World) : Calls Tryz.prog 94 #[.agg #[Value.bool x.ha, .int .u32 x.addr.toNat, .bool x.h1, .int .u32 x.dns1.toNat, .bool x.h2, .int .u32 x.dns2.toNat], .int .u32 v.toNat] w (WithQ 129 x v w) := by
  show Calls Tryz.prog 94 #[.agg #[Value.bool x.ha, .int .u32 x.addr.toNat, .bool x.h1, .int .u32 x.dns1.toNat, .bool x.h2, .int .u32 x.dns2.toNat], .int .u32 v.toNat] w fun e w' => e = .returned (.agg #[Value.bool x.ha, .int .u32 x.addr.toNat, .bool true, .int .u32 v.toNat, .bool x.h2, .int .u32 x.dns2.toNat]) ∧ Below w.heap.size w w'
  obtain ⟨W, hW, HW⟩ := boxL2 w x
  have HX := Lib.hid HW.out.1
  have HZ := Lib.hid HW.out.2.1
  have HB := Lib.hid HW.out.2.2
  clear HW
  have c0 : W.cell? ⟨w.heap.size, 0, none⟩ = some (Value.bool x.ha) := HX.out.c 0
  have c1 : W.cell? ⟨w.heap.size, 1, none⟩ = some (.int .u32 x.addr.toNat) := HX.out.c 1
  have c2 : W.cell? ⟨w.heap.size, 2, none⟩ = some (.bool x.h1) := HX.out.c 2
  have c3 : W.cell? ⟨w.heap.size, 3, none⟩ = some (.int .u32 x.dns1.toNat) := HX.out.c 3
  have c4 : W.cell? ⟨w.heap.size, 4, none⟩ = some (.bool x.h2) := HX.out.c 4
  have c5 : W.cell? ⟨w.heap.size, 5, none⟩ = some (.int .u32 x.dns2.toNat) := HX.out.c 5
  have f0 : W.frozen? ⟨w.heap.size, 2, none⟩ = false := HX.out.f 2
  have f1 : W.frozen? ⟨w.heap.size, 3, none⟩ = false := HX.out.f 3
  have d0 : W.cell? ⟨w.heap.size + 1, 0, none⟩ = some (Value.bool false) := HZ.out.c 0
  have g0 : W.frozen? ⟨w.heap.size + 1, 0, none⟩ = false := HZ.out.f 0
  have d1 : W.cell? ⟨w.heap.size + 1, 1, none⟩ = some (.int .u32 0) := HZ.out.c 1
  have g1 : W.frozen? ⟨w.heap.size + 1, 1, none⟩ = false := HZ.out.f 1
  have d2 : W.cell? ⟨w.heap.size + 1, 2, none⟩ = some (.bool false) := HZ.out.c 2
  have g2 : W.frozen? ⟨w.heap.size + 1, 2, none⟩ = false := HZ.out.f 2
  have d3 : W.cell? ⟨w.heap.size + 1, 3, none⟩ = some (.int .u32 0) := HZ.out.c 3
  have g3 : W.frozen? ⟨w.heap.size + 1, 3, none⟩ = false := HZ.out.f 3
  have d4 : W.cell? ⟨w.heap.size + 1, 4, none⟩ = some (.bool false) := HZ.out.c 4
  have g4 : W.frozen? ⟨w.heap.size + 1, 4, none⟩ = false := HZ.out.f 4
  have d5 : W.cell? ⟨w.heap.size + 1, 5, none⟩ = some (.int .u32 0) := HZ.out.c 5
  have g5 : W.frozen? ⟨w.heap.size + 1, 5, none⟩ = false := HZ.out.f 5
  go_enter Tryz.func94, Tryz.ntmps94
  go_wp2
  have HZ2 := Lib.hid (blk_other (blk_other HZ.out (p := ⟨w.heap.size, 2, none⟩) (show w.heap.size + 1 ≠ w.heap.size by omega) (.bool true)) (p := ⟨w.heap.size, 3, none⟩) (show w.heap.size + 1 ≠ w.heap.size by omega) (.int .u32 v.toNat))
  have HR := setL_blk (y := set 129 x v) HZ2.out
  have HB2 := (HB.out.setCell (p := ⟨w.heap.size, 2, none⟩) (Nat.le_refl _) (.bool true)).setCell (p := ⟨w.heap.size, 3, none⟩) (Nat.le_refl _) (.int .u32 v.toNat)
  have HBe := setL_below HB2 HB2.size (g := w.heap.size + 1) (Nat.le_succ _) (lv (set 129 x v))
  refine bodyPost_ret (results_cell_row rfl _ _ (w.heap.size + 1) _ _ _ _ rfl HR Tryz.underlying52 rfl (by kernel_rfl)) rfl ?_
  exact ⟨rfl, HBe⟩
set_option maxHeartbeats 1000000 in
set_option maxRecDepth 100000 in
theorem with3 (x : Ipc) (v : UInt32) (w : World) : Calls Tryz.prog 96 #[.agg #[Value.bool x.ha, .int .u32 x.addr.toNat, .bool x.h1, .int .u32 x.dns1.toNat, .bool x.h2, .int .u32 x.dns2.toNat], .int .u32 v.toNat] w (WithQ 131 x v w) := by
  show Calls Tryz.prog 96 #[.agg #[Value.bool x.ha, .int .u32 x.addr.toNat, .bool x.h1, .int .u32 x.dns1.toNat, .bool x.h2, .int .u32 x.dns2.toNat], .int .u32 v.toNat] w fun e w' => e = .returned (.agg #[Value.bool x.ha, .int .u32 x.addr.toNat, .bool x.h1, .int .u32 x.dns1.toNat, .bool true, .int .u32 v.toNat]) ∧ Below w.heap.size w w'
  obtain ⟨W, hW, HW⟩ := boxL2 w x
  have HX := Lib.hid HW.out.1
  have HZ := Lib.hid HW.out.2.1
  have HB := Lib.hid HW.out.2.2
  clear HW
  have c0 : W.cell? ⟨w.heap.size, 0, none⟩ = some (Value.bool x.ha) := HX.out.c 0
  have c1 : W.cell? ⟨w.heap.size, 1, none⟩ = some (.int .u32 x.addr.toNat) := HX.out.c 1
  have c2 : W.cell? ⟨w.heap.size, 2, none⟩ = some (.bool x.h1) := HX.out.c 2
  have c3 : W.cell? ⟨w.heap.size, 3, none⟩ = some (.int .u32 x.dns1.toNat) := HX.out.c 3
  have c4 : W.cell? ⟨w.heap.size, 4, none⟩ = some (.bool x.h2) := HX.out.c 4
  have c5 : W.cell? ⟨w.heap.size, 5, none⟩ = some (.int .u32 x.dns2.toNat) := HX.out.c 5
  have f0 : W.frozen? ⟨w.heap.size, 4, none⟩ = false := HX.out.f 4
  have f1 : W.frozen? ⟨w.heap.size, 5, none⟩ = false := HX.out.f 5
  have d0 : W.cell? ⟨w.heap.size + 1, 0, none⟩ = some (Value.bool false) := HZ.out.c 0
  have g0 : W.frozen? ⟨w.heap.size + 1, 0, none⟩ = false := HZ.out.f 0
  have d1 : W.cell? ⟨w.heap.size + 1, 1, none⟩ = some (.int .u32 0) := HZ.out.c 1
  have g1 : W.frozen? ⟨w.heap.size + 1, 1, none⟩ = false := HZ.out.f 1
  have d2 : W.cell? ⟨w.heap.size + 1, 2, none⟩ = some (.bool false) := HZ.out.c 2
  have g2 : W.frozen? ⟨w.heap.size + 1, 2, none⟩ = false := HZ.out.f 2
  have d3 : W.cell? ⟨w.heap.size + 1, 3, none⟩ = some (.int .u32 0) := HZ.out.c 3
  have g3 : W.frozen? ⟨w.heap.size + 1, 3, none⟩ = false := HZ.out.f 3
  have d4 : W.cell? ⟨w.heap.size + 1, 4, none⟩ = some (.bool false) := HZ.out.c 4
  have g4 : W.frozen? ⟨w.heap.size + 1, 4, none⟩ = false := HZ.out.f 4
  have d5 : W.cell? ⟨w.heap.size + 1, 5, none⟩ = some (.int .u32 0) := HZ.out.c 5
  have g5 : W.frozen? ⟨w.heap.size + 1, 5, none⟩ = false := HZ.out.f 5
  go_enter Tryz.func96, Tryz.ntmps96
  go_wp2
  have HZ2 := Lib.hid (blk_other (blk_other HZ.out (p := ⟨w.heap.size, 4, none⟩) (show w.heap.size + 1 ≠ w.heap.size by omega) (.bool true)) (p := ⟨w.heap.size, 5, none⟩) (show w.heap.size + 1 ≠ w.heap.size by omega) (.int .u32 v.toNat))
  have HR := setL_blk (y := set 131 x v) HZ2.out
  have HB2 := (HB.out.setCell (p := ⟨w.heap.size, 4, none⟩) (Nat.le_refl _) (.bool true)).setCell (p := ⟨w.heap.size, 5, none⟩) (Nat.le_refl _) (.int .u32 v.toNat)
  have HBe := setL_below HB2 HB2.size (g := w.heap.size + 1) (Nat.le_succ _) (lv (set 131 x v))
  refine bodyPost_ret (results_cell_row rfl _ _ (w.heap.size + 1) _ _ _ _ rfl HR Tryz.underlying52 rfl (by kernel_rfl)) rfl ?_
  exact ⟨rfl, HBe⟩
/-- The three, as they are made. -/
def msV : Value := .agg #[.int .u8 3, .func (.func 91) #[] #[], .func (.func 92) #[] #[], .int .u8 129, .func (.func 93) #[] #[], .func (.func 94) #[] #[], .int .u8 131, .func (.func 95) #[] #[], .func (.func 96) #[] #[]]
set_option maxRecDepth 100000 in
theorem meanings_any (w : World) : Calls Tryz.prog 74 #[] w fun e w' => e = .returned msV ∧ Below w.heap.size w w' := by
  go_enter Tryz.func74, Tryz.ntmps74
  go_wp2
  refine bodyPost_ret (results_cell_row rfl _ _ w.heap.size _ _ _ _ rfl (World.alloc_heap_new w _) Tryz.underlying162 rfl (by kernel_rfl)) rfl ?_
  exact ⟨rfl, (Below.refl _ _).alloc (Nat.le_refl _) _⟩
/-- Of which type the k-th of the three is, and its functions. -/
def kd (k : Nat) : UInt8 := six.getD k 0
def fS (k : Nat) : FuncId := if k = 0 then 91 else if k = 1 then 93 else 95
def fW (k : Nat) : FuncId := if k = 0 then 92 else if k = 1 then 94 else 96
/-- The k-th of the three. -/
def mV (k : Nat) : List Value := [.int .u8 (kd k).toNat, .func (.func (fS k)) #[] #[], .func (.func (fW k)) #[] #[]]
theorem said_any (k : Nat) (hk : k < 3) (x : Ipc) (w : World) : Calls Tryz.prog (fS k) #[.agg (lv x).toArray] w (SaidQ (kd k) x w) := by
  rcases (show k = 0 ∨ k = 1 ∨ k = 2 by omega) with rfl | rfl | rfl
  · exact said1 x w
  · exact said2 x w
  · exact said3 x w
theorem with_any (k : Nat) (hk : k < 3) (x : Ipc) (v : UInt32) (w : World) : Calls Tryz.prog (fW k) #[.agg (lv x).toArray, .int .u32 v.toNat] w (WithQ (kd k) x v w) := by
  rcases (show k = 0 ∨ k = 1 ∨ k = 2 by omega) with rfl | rfl | rfl
  · exact with1 x v w
  · exact with2 x v w
  · exact with3 x v w
set_option maxRecDepth 100000 in
theorem said_enters (k : Nat) (hk : k < 3) : ∀ args w, (callFunc (fS k) args).run Tryz.prog w = .ok (.enter (fS k) args) w := by
  rcases (show k = 0 ∨ k = 1 ∨ k = 2 by omega) with rfl | rfl | rfl
  all_goals exact fun args w => by kernel_rfl
set_option maxRecDepth 100000 in
theorem with_enters (k : Nat) (hk : k < 3) : ∀ args w, (callFunc (fW k) args).run Tryz.prog w = .ok (.enter (fW k) args) w := by
  rcases (show k = 0 ∨ k = 1 ∨ k = 2 by omega) with rfl | rfl | rfl
  all_goals exact fun args w => by kernel_rfl
set_option maxRecDepth 100000 in
theorem index_ms (k : Nat) (hk : k < 3) (w : World) : (Instr.index 162 msV (.int .i64 (k : Nat))).run Tryz.prog w = .ok (.agg (mV k).toArray) w := by
  rcases (show k = 0 ∨ k = 1 ∨ k = 2 by omega) with rfl | rfl | rfl
  all_goals kernel_rfl
end Go.Proofs.YtikcgcgbcolndaaGreat.Ipc
