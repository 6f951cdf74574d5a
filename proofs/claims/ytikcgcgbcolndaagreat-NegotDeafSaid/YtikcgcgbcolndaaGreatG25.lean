/- Put together: IpcA, IppMem, IppA, IppN, IpcB, IpcC. -/
import Derived.Test.YtikcgcgbcolndaaGreatG16
import Derived.Test.YtikcgcgbcolndaaGreatG33
import Derived.Test.YtikcgcgbcolndaaGreatG1
import Derived.Deep.RegionHeld3
import Derived.RegionTactic
import Derived.BigQuiet
import Derived.Laws.EntriesVeiled
import Derived.Deep.MidRow
import Derived.Laws.Rows
import Derived.Laws.Tables
import Derived.Deep.QuietTactic
import Derived.Deep.WholeRow
import Derived.OwnWalk
import Derived.Maps.AppendAt

/- The struct in a block; contracts of ipcpopt's meanings and of their six functions. -/
namespace Go.Proofs.YtikcgcgbcolndaaGreat.Ipc
open Go.RowKit Go.Proofs.YtikcgcgbcolndaaGreat.Oct Go.Proofs.YtikcgcgbcolndaaGreat.Row Go.Proofs.YtikcgcgbcolndaaGreat.Mem Go.Proofs.YtikcgcgbcolndaaGreat.Opt

/-- The struct lies in block g. -/
def LAt (W : World) (g : Nat) (x : Ipc) : Prop := Blk W g (lv x) 52
theorem LAt.callee {W W' : World} {g : Nat} {x : Ipc} (h : LAt W g x) (hb : Below W.heap.size W W') : LAt W' g x := Blk.callee h hb
theorem LAt.below {W W' : World} {g n : Nat} {x : Ipc} (h : LAt W g x) (hb : Below n W W') (hg : g < n) : LAt W' g x := Blk.below h hb hg
theorem LAt.alloc {W : World} {g : Nat} {x : Ipc} (h : LAt W g x) (o : Obj) : LAt (W.alloc o) g x := Blk.alloc h o
theorem LAt.lt {W : World} {g : Nat} {x : Ipc} (h : LAt W g x) : g < W.heap.size := Blk.lt h
theorem lat_new (W : World) (x : Ipc) : LAt (W.alloc (.cells (lv x).toArray 52)) W.heap.size x := blk_new W (lv x) _
theorem LAt.c {W : World} {g : Nat} {x : Ipc} (h : LAt W g x) (i : Nat) : W.cell? ⟨g, i, none⟩ = (lv x)[i]? := Blk.at_ h i
theorem LAt.f {W : World} {g : Nat} {x : Ipc} (h : LAt W g x) (i : Nat) : W.frozen? ⟨g, i, none⟩ = false := Blk.frozen h i
/-- A struct of six cells in a block, once it is boxed. -/
theorem boxL (w : World) (x : Ipc) : ∃ W, w.alloc (.cells #[Value.bool x.ha, .int .u32 x.addr.toNat, .bool x.h1, .int .u32 x.dns1.toNat, .bool x.h2, .int .u32 x.dns2.toNat] 52) = W ∧ Hid (LAt W w.heap.size x ∧ Below w.heap.size w W ∧ W.heap.size = w.heap.size + 1) :=
  ⟨_, rfl, lat_new w x, (Below.refl w.heap.size w).alloc (Nat.le_refl _) _, by simp⟩
/-- .. and the named result behind it. -/
theorem boxL2 (w : World) (x : Ipc) : ∃ W, (w.alloc (.cells #[Value.bool x.ha, .int .u32 x.addr.toNat, .bool x.h1, .int .u32 x.dns1.toNat, .bool x.h2, .int .u32 x.dns2.toNat] 52)).alloc (.cells #[Value.bool false, .int .u32 0, .bool false, .int .u32 0, .bool false, .int .u32 0] 52) = W ∧ Hid (LAt W w.heap.size x ∧ LAt W (w.heap.size + 1) lz ∧ Below w.heap.size w W) :=
  ⟨_, rfl, (lat_new w x).alloc _, by have := lat_new (w.alloc (.cells (lv x).toArray 52)) lz; rw [show (w.alloc (.cells (lv x).toArray 52)).heap.size = w.heap.size + 1 by simp] at this; exact this, ((Below.refl w.heap.size w).alloc (Nat.le_refl _) _).alloc (by simp) _⟩
/-- A struct is laid over another one. -/
def setL (W : World) (g : Nat) (c : List Value) : World :=
  (((((W.setCell ⟨g, 0, none⟩ (c.getD 0 undef)).setCell ⟨g, 1, none⟩ (c.getD 1 undef)).setCell ⟨g, 2, none⟩ (c.getD 2 undef)).setCell ⟨g, 3, none⟩ (c.getD 3 undef)).setCell ⟨g, 4, none⟩ (c.getD 4 undef)).setCell ⟨g, 5, none⟩ (c.getD 5 undef)
theorem setL_blk {W : World} {g : Nat} {x y : Ipc} (h : LAt W g x) : LAt (setL W g (lv y)) g y :=
  (((((Blk.set h 0 (.bool y.ha)).set 1 (.int .u32 y.addr.toNat)).set 2 (.bool y.h1)).set 3 (.int .u32 y.dns1.toNat)).set 4 (.bool y.h2)).set 5 (.int .u32 y.dns2.toNat)
theorem setL_moves (W : World) (g : Nat) (c : List Value) : Moves (fun k => k = g) W (setL W g c) :=
  (((((((Moves.refl (fun k => k = g) W).setCell ⟨g, 0, none⟩ (fun _ => rfl) _).setCell ⟨g, 1, none⟩ (fun _ => rfl) _).setCell ⟨g, 2, none⟩ (fun _ => rfl) _).setCell ⟨g, 3, none⟩ (fun _ => rfl) _).setCell ⟨g, 4, none⟩ (fun _ => rfl) _).setCell ⟨g, 5, none⟩ (fun _ => rfl) _)
theorem setL_below {W w : World} {g n : Nat} (h : Below n w W) (hn : n ≤ W.heap.size) (hg : n ≤ g) (c : List Value) : Below n w (setL W g c) :=
  h.trans ((setL_moves W g c).below hn (fun k e => by subst e; exact hg))

theorem blk_other {w : World} {k : Nat} {cs : List Value} {t : TypeId} (h : Blk w k cs t) {p : Addr} (hk : k ≠ p.block) (u : Value) : Blk (w.setCell p u) k cs t := (Below.heap_setCell w p u k hk).trans h
/-- What 'said' answers. -/
def SaidQ (t : UInt8) (x : Ipc) (w : World) (e : Ending) (w' : World) : Prop := e = .returned (.tuple #[.int .u32 (adr t x).toNat, .bool (has t x)]) ∧ Below w.heap.size w w'
/-- What 'with' answers. -/
def WithQ (t : UInt8) (x : Ipc) (v : UInt32) (w : World) (e : Ending) (w' : World) : Prop := e = .returned (.agg (lv (set t x v)).toArray) ∧ Below w.heap.size w w'
set_option maxRecDepth 100000 in
theorem said1 (x : Ipc) (w : World) : Calls Tryz.prog 91 #[.agg #[Value.bool x.ha, .int .u32 x.addr.toNat, .bool x.h1, .int .u32 x.dns1.toNat, .bool x.h2, .int .u32 x.dns2.toNat]] w (SaidQ 3 x w) := by
  show Calls Tryz.prog 91 #[.agg #[Value.bool x.ha, .int .u32 x.addr.toNat, .bool x.h1, .int .u32 x.dns1.toNat, .bool x.h2, .int .u32 x.dns2.toNat]] w fun e w' => e = .returned (.tuple #[.int .u32 x.addr.toNat, .bool x.ha]) ∧ Below w.heap.size w w'
  obtain ⟨W, hW, HW⟩ := boxL w x
  have HB := Lib.hid HW.out.2.1
  have c1 : W.cell? ⟨w.heap.size, 1, none⟩ = some (.int .u32 x.addr.toNat) := HW.out.1.c 1
  have c2 : W.cell? ⟨w.heap.size, 0, none⟩ = some (.bool x.ha) := HW.out.1.c 0
  clear HW
  go_enter Tryz.func91, Tryz.ntmps91
  go_wp2
  clear hW
  go_quiet (fail)
  go_wp2
  go_ret2
  exact ⟨rfl, HB.out.drewN' _⟩
set_option maxRecDepth 100000 in
theorem said2 (x : Ipc) (w : World) : Calls Tryz.prog 93 #[.agg #[Value.bool x.ha, .int .u32 x.addr.toNat, .bool x.h1, .int .u32 x.dns1.toNat, .bool x.h2, .int .u32 x.dns2.toNat]] w (SaidQ 129 x w) := by
  show Calls Tryz.prog 93 #[.agg #[Value.bool x.ha, .int .u32 x.addr.toNat, .bool x.h1, .int .u32 x.dns1.toNat, .bool x.h2, .int .u32 x.dns2.toNat]] w fun e w' => e = .returned (.tuple #[.int .u32 x.dns1.toNat, .bool x.h1]) ∧ Below w.heap.size w w'
  obtain ⟨W, hW, HW⟩ := boxL w x
  have HB := Lib.hid HW.out.2.1
  have c1 : W.cell? ⟨w.heap.size, 3, none⟩ = some (.int .u32 x.dns1.toNat) := HW.out.1.c 3
  have c2 : W.cell? ⟨w.heap.size, 2, none⟩ = some (.bool x.h1) := HW.out.1.c 2
  clear HW
  go_enter Tryz.func93, Tryz.ntmps93
  go_wp2
  clear hW
  go_quiet (fail)
  go_wp2
  go_ret2
  exact ⟨rfl, HB.out.drewN' _⟩
set_option maxRecDepth 100000 in
theorem said3 (x : Ipc) (w : World) : Calls Tryz.prog 95 #[.agg #[Value.bool x.ha, .int .u32 x.addr.toNat, .bool x.h1, .int .u32 x.dns1.toNat, .bool x.h2, .int .u32 x.dns2.toNat]] w (SaidQ 131 x w) := by
  show Calls Tryz.prog 95 #[.agg #[Value.bool x.ha, .int .u32 x.addr.toNat, .bool x.h1, .int .u32 x.dns1.toNat, .bool x.h2, .int .u32 x.dns2.toNat]] w fun e w' => e = .returned (.tuple #[.int .u32 x.dns2.toNat, .bool x.h2]) ∧ Below w.heap.size w w'
  obtain ⟨W, hW, HW⟩ := boxL w x
  have HB := Lib.hid HW.out.2.1
  have c1 : W.cell? ⟨w.heap.size, 5, none⟩ = some (.int .u32 x.dns2.toNat) := HW.out.1.c 5
  have c2 : W.cell? ⟨w.heap.size, 4, none⟩ = some (.bool x.h2) := HW.out.1.c 4
  clear HW
  go_enter Tryz.func95, Tryz.ntmps95
  go_wp2
  clear hW
  go_quiet (fail)
  go_wp2
  go_ret2
  exact ⟨rfl, HB.out.drewN' _⟩
set_option maxHeartbeats 1000000 in
set_option maxRecDepth 100000 in
theorem with1 (x : Ipc) (v : UInt32) (w : World) : Calls Tryz.prog 92 #[.agg #[Value.bool x.ha, .int .u32 x.addr.toNat, .bool x.h1, .int .u32 x.dns1.toNat, .bool x.h2, .int .u32 x.dns2.toNat], .int .u32 v.toNat] w (WithQ 3 x v w) := by
  show Calls Tryz.prog 92 #[.agg #[Value.bool x.ha, .int .u32 x.addr.toNat, .bool x.h1, .int .u32 x.dns1.toNat, .bool x.h2, .int .u32 x.dns2.toNat], .int .u32 v.toNat] w fun e w' => e = .returned (.agg #[Value.bool true, .int .u32 v.toNat, .bool x.h1, .int .u32 x.dns1.toNat, .bool x.h2, .int .u32 x.dns2.toNat]) ∧ Below w.heap.size w w'
  obtain ⟨W, hW, HW⟩ := boxL2 w x
  have HX := Lib.hid HW.out.1
  have HZ := Lib.hid HW.out.2.1
  have HB := Lib.hid HW.out.2.2
  clear HW
  have c0 : W.cell? ⟨w.heap.size, 0, none⟩ = some (Value.bool x.ha) := HX.out.c 0
  have c1 : W.cell? ⟨w.heap.size, 1, none⟩ = some (.int .u32 x.addr.toNat) := HX.out.c 1
  have c2 : W.cell? ⟨w.heap.size, 2, none⟩ = some (.bool x.h1) := HX.out.c 2
  have c3 : W.cell? ⟨w.heap.size, 3, none⟩ = some (.int .u32 x.dns1.toNat) := HX.out.c 3
  have c4 : W.cell? ⟨w.heap.size, 4, none⟩ = some (.bool x.h2) := HX.out.c 4
  have c5 : W.cell? ⟨w.heap.size, 5, none⟩ = some (.int .u32 x.dns2.toNat) := HX.out.c 5
  have f0 : W.frozen? ⟨w.heap.size, 0, none⟩ = false := HX.out.f 0
  have f1 : W.frozen? ⟨w.heap.size, 1, none⟩ = false := HX.out.f 1
  have d0 : W.cell? ⟨w.heap.size + 1, 0, none⟩ = some (Value.bool false) := HZ.out.c 0
  have g0 : W.frozen? ⟨w.heap.size + 1, 0, none⟩ = false := HZ.out.f 0
  have d1 : W.cell? ⟨w.heap.size + 1, 1, none⟩ = some (.int .u32 0) := HZ.out.c 1
  have g1 : W.frozen? ⟨w.heap.size + 1, 1, none⟩ = false := HZ.out.f 1
  have d2 : W.cell? ⟨w.heap.size + 1, 2, none⟩ = some (.bool false) := HZ.out.c 2
  have g2 : W.frozen? ⟨w.heap.size + 1, 2, none⟩ = false := HZ.out.f 2
  have d3 : W.cell? ⟨w.heap.size + 1, 3, none⟩ = some (.int .u32 0) := HZ.out.c 3
  have g3 : W.frozen? ⟨w.heap.size + 1, 3, none⟩ = false := HZ.out.f 3
  have d4 : W.cell? ⟨w.heap.size + 1, 4, none⟩ = some (.bool false) := HZ.out.c 4
  have g4 : W.frozen? ⟨w.heap.size + 1, 4, none⟩ = false := HZ.out.f 4
  have d5 : W.cell? ⟨w.heap.size + 1, 5, none⟩ = some (.int .u32 0) := HZ.out.c 5
  have g5 : W.frozen? ⟨w.heap.size + 1, 5, none⟩ = false := HZ.out.f 5
  go_enter Tryz.func92, Tryz.ntmps92
  go_wp2
  have HZ2 := Lib.hid (blk_other (blk_other HZ.out (p := ⟨w.heap.size, 0, none⟩) (show w.heap.size + 1 ≠ w.heap.size by omega) (.bool true)) (p := ⟨w.heap.size, 1, none⟩) (show w.heap.size + 1 ≠ w.heap.size by omega) (.int .u32 v.toNat))
  have HR := setL_blk (y := set 3 x v) HZ2.out
  have HB2 := (HB.out.setCell (p := ⟨w.heap.size, 0, none⟩) (Nat.le_refl _) (.bool true)).setCell (p := ⟨w.heap.size, 1, none⟩) (Nat.le_refl _) (.int .u32 v.toNat)
  have HBe := setL_below HB2 HB2.size (g := w.heap.size + 1) (Nat.le_succ _) (lv (set 3 x v))
  refine bodyPost_ret (results_cell_row rfl _ _ (w.heap.size + 1) _ _ _ _ rfl HR Tryz.underlying52 rfl (by kernel_rfl)) rfl ?_
  exact ⟨rfl, HBe⟩
set_option maxHeartbeats 1000000 in
set_option maxRecDepth 100000 in
theorem with2 (x : Ipc) (v : UInt32) (w : World) : Calls Tryz.prog 94 #[.agg #[Value.bool x.ha, .int .u32 x.addr.toNat, .bool x.h1, .int .u32 x.dns1.toNat, .bool x.h2, .int .u32 x.dns2.toNat], .int .u32 v.toNat] w (WithQ 129 x v w) := by
  show Calls Tryz.prog 94 #[.agg #[Value.bool x.ha, .int .u32 x.addr.toNat, .bool x.h1, .int .u32 x.dns1.toNat, .bool x.h2, .int .u32 x.dns2.toNat], .int .u32 v.toNat] w fun e w' => e = .returned (.agg #[Value.bool x.ha, .int .u32 x.addr.toNat, .bool true, .int .u32 v.toNat, .bool x.h2, .int .u32 x.dns2.toNat]) ∧ Below w.heap.size w w'
  obtain ⟨W, hW, HW⟩ := boxL2 w x
  have HX := Lib.hid HW.out.1
  have HZ := Lib.hid HW.out.2.1
  have HB := Lib.hid HW.out.2.2
  clear HW
  have c0 : W.cell? ⟨w.heap.size, 0, none⟩ = some (Value.bool x.ha) := HX.out.c 0
  have c1 : W.cell? ⟨w.heap.size, 1, none⟩ = some (.int .u32 x.addr.toNat) := HX.out.c 1
  have c2 : W.cell? ⟨w.heap.size, 2, none⟩ = some (.bool x.h1) := HX.out.c 2
  have c3 : W.cell? ⟨w.heap.size, 3, none⟩ = some (.int .u32 x.dns1.toNat) := HX.out.c 3
  have c4 : W.cell? ⟨w.heap.size, 4, none⟩ = some (.bool x.h2) := HX.out.c 4
  have c5 : W.cell? ⟨w.heap.size, 5, none⟩ = some (.int .u32 x.dns2.toNat) := HX.out.c 5
  have f0 : W.frozen? ⟨w.heap.size, 2, none⟩ = false := HX.out.f 2
  have f1 : W.frozen? ⟨w.heap.size, 3, none⟩ = false := HX.out.f 3
  have d0 : W.cell? ⟨w.heap.size + 1, 0, none⟩ = some (Value.bool false) := HZ.out.c 0
  have g0 : W.frozen? ⟨w.heap.size + 1, 0, none⟩ = false := HZ.out.f 0
  have d1 : W.cell? ⟨w.heap.size + 1, 1, none⟩ = some (.int .u32 0) := HZ.out.c 1
  have g1 : W.frozen? ⟨w.heap.size + 1, 1, none⟩ = false := HZ.out.f 1
  have d2 : W.cell? ⟨w.heap.size + 1, 2, none⟩ = some (.bool false) := HZ.out.c 2
  have g2 : W.frozen? ⟨w.heap.size + 1, 2, none⟩ = false := HZ.out.f 2
  have d3 : W.cell? ⟨w.heap.size + 1, 3, none⟩ = some (.int .u32 0) := HZ.out.c 3
  have g3 : W.frozen? ⟨w.heap.size + 1, 3, none⟩ = false := HZ.out.f 3
  have d4 : W.cell? ⟨w.heap.size + 1, 4, none⟩ = some (.bool false) := HZ.out.c 4
  have g4 : W.frozen? ⟨w.heap.size + 1, 4, none⟩ = false := HZ.out.f 4
  have d5 : W.cell? ⟨w.heap.size + 1, 5, none⟩ = some (.int .u32 0) := HZ.out.c 5
  have g5 : W.frozen? ⟨w.heap.size + 1, 5, none⟩ = false := HZ.out.f 5
  go_enter Tryz.func94, Tryz.ntmps94
  go_wp2
  have HZ2 := Lib.hid (blk_other (blk_other HZ.out (p := ⟨w.heap.size, 2, none⟩) (show w.heap.size + 1 ≠ w.heap.size by omega) (.bool true)) (p := ⟨w.heap.size, 3, none⟩) (show w.heap.size + 1 ≠ w.heap.size by omega) (.int .u32 v.toNat))
  have HR := setL_blk (y := set 129 x v) HZ2.out
  have HB2 := (HB.out.setCell (p := ⟨w.heap.size, 2, none⟩) (Nat.le_refl _) (.bool true)).setCell (p := ⟨w.heap.size, 3, none⟩) (Nat.le_refl _) (.int .u32 v.toNat)
  have HBe := setL_below HB2 HB2.size (g := w.heap.size + 1) (Nat.le_succ _) (lv (set 129 x v))
  refine bodyPost_ret (results_cell_row rfl _ _ (w.heap.size + 1) _ _ _ _ rfl HR Tryz.underlying52 rfl (by kernel_rfl)) rfl ?_
  exact ⟨rfl, HBe⟩
set_option maxHeartbeats 1000000 in
set_option maxRecDepth 100000 in
theorem with3 (x : Ipc) (v : UInt32) (w : World) : Calls Tryz.prog 96 #[.agg #[Value.bool x.ha, .int .u32 x.addr.toNat, .bool x.h1, .int .u32 x.dns1.toNat, .bool x.h2, .int .u32 x.dns2.toNat], .int .u32 v.toNat] w (WithQ 131 x v w) := by
  show Calls Tryz.prog 96 #[.agg #[Value.bool x.ha, .int .u32 x.addr.toNat, .bool x.h1, .int .u32 x.dns1.toNat, .bool x.h2, .int .u32 x.dns2.toNat], .int .u32 v.toNat] w fun e w' => e = .returned (.agg #[Value.bool x.ha, .int .u32 x.addr.toNat, .bool x.h1, .int .u32 x.dns1.toNat, .bool true, .int .u32 v.toNat]) ∧ Below w.heap.size w w'
  obtain ⟨W, hW, HW⟩ := boxL2 w x
  have HX := Lib.hid HW.out.1
  have HZ := Lib.hid HW.out.2.1
  have HB := Lib.hid HW.out.2.2
  clear HW
  have c0 : W.cell? ⟨w.heap.size, 0, none⟩ = some (Value.bool x.ha) := HX.out.c 0
  have c1 : W.cell? ⟨w.heap.size, 1, none⟩ = some (.int .u32 x.addr.toNat) := HX.out.c 1
  have c2 : W.cell? ⟨w.heap.size, 2, none⟩ = some (.bool x.h1) := HX.out.c 2
  have c3 : W.cell? ⟨w.heap.size, 3, none⟩ = some (.int .u32 x.dns1.toNat) := HX.out.c 3
  have c4 : W.cell? ⟨w.heap.size, 4, none⟩ = some (.bool x.h2) := HX.out.c 4
  have c5 : W.cell? ⟨w.heap.size, 5, none⟩ = some (.int .u32 x.dns2.toNat) := HX.out.c 5
  have f0 : W.frozen? ⟨w.heap.size, 4, none⟩ = false := HX.out.f 4
  have f1 : W.frozen? ⟨w.heap.size, 5, none⟩ = false := HX.out.f 5
  have d0 : W.cell? ⟨w.heap.size + 1, 0, none⟩ = some (Value.bool false) := HZ.out.c 0
  have g0 : W.frozen? ⟨w.heap.size + 1, 0, none⟩ = false := HZ.out.f 0
  have d1 : W.cell? ⟨w.heap.size + 1, 1, none⟩ = some (.int .u32 0) := HZ.out.c 1
  have g1 : W.frozen? ⟨w.heap.size + 1, 1, none⟩ = false := HZ.out.f 1
  have d2 : W.cell? ⟨w.heap.size + 1, 2, none⟩ = some (.bool false) := HZ.out.c 2
  have g2 : W.frozen? ⟨w.heap.size + 1, 2, none⟩ = false := HZ.out.f 2
  have d3 : W.cell? ⟨w.heap.size + 1, 3, none⟩ = some (.int .u32 0) := HZ.out.c 3
  have g3 : W.frozen? ⟨w.heap.size + 1, 3, none⟩ = false := HZ.out.f 3
  have d4 : W.cell? ⟨w.heap.size + 1, 4, none⟩ = some (.bool false) := HZ.out.c 4
  have g4 : W.frozen? ⟨w.heap.size + 1, 4, none⟩ = false := HZ.out.f 4
  have d5 : W.cell? ⟨w.heap.size + 1, 5, none⟩ = some (.int .u32 0) := HZ.out.c 5
  have g5 : W.frozen? ⟨w.heap.size + 1, 5, none⟩ = false := HZ.out.f 5
  go_enter Tryz.func96, Tryz.ntmps96
  go_wp2
  have HZ2 := Lib.hid (blk_other (blk_other HZ.out (p := ⟨w.heap.size, 4, none⟩) (show w.heap.size + 1 ≠ w.heap.size by omega) (.bool true)) (p := ⟨w.heap.size, 5, none⟩) (show w.heap.size + 1 ≠ w.heap.size by omega) (.int .u32 v.toNat))
  have HR := setL_blk (y := set 131 x v) HZ2.out
  have HB2 := (HB.out.setCell (p := ⟨w.heap.size, 4, none⟩) (Nat.le_refl _) (.bool true)).setCell (p := ⟨w.heap.size, 5, none⟩) (Nat.le_refl _) (.int .u32 v.toNat)
  have HBe := setL_below HB2 HB2.size (g := w.heap.size + 1) (Nat.le_succ _) (lv (set 131 x v))
  refine bodyPost_ret (results_cell_row rfl _ _ (w.heap.size + 1) _ _ _ _ rfl HR Tryz.underlying52 rfl (by kernel_rfl)) rfl ?_
  exact ⟨rfl, HBe⟩
/-- The three, as they are made. -/
def msV : Value := .agg #[.int .u8 3, .func (.func 91) #[] #[], .func (.func 92) #[] #[], .int .u8 129, .func (.func 93) #[] #[], .func (.func 94) #[] #[], .int .u8 131, .func (.func 95) #[] #[], .func (.func 96) #[] #[]]
set_option maxRecDepth 100000 in
theorem meanings_any (w : World) : Calls Tryz.prog 74 #[] w fun e w' => e = .returned msV ∧ Below w.heap.size w w' := by
  go_enter Tryz.func74, Tryz.ntmps74
  go_wp2
  refine bodyPost_ret (results_cell_row rfl _ _ w.heap.size _ _ _ _ rfl (World.alloc_heap_new w _) Tryz.underlying162 rfl (by kernel_rfl)) rfl ?_
  exact ⟨rfl, (Below.refl _ _).alloc (Nat.le_refl _) _⟩
/-- Of which type the k-th of the three is, and its functions. -/
def kd (k : Nat) : UInt8 := six.getD k 0
def fS (k : Nat) : FuncId := if k = 0 then 91 else if k = 1 then 93 else 95
def fW (k : Nat) : FuncId := if k = 0 then 92 else if k = 1 then 94 else 96
/-- The k-th of the three. -/
def mV (k : Nat) : List Value := [.int .u8 (kd k).toNat, .func (.func (fS k)) #[] #[], .func (.func (fW k)) #[] #[]]
theorem said_any (k : Nat) (hk : k < 3) (x : Ipc) (w : World) : Calls Tryz.prog (fS k) #[.agg (lv x).toArray] w (SaidQ (kd k) x w) := by
  rcases (show k = 0 ∨ k = 1 ∨ k = 2 by omega) with rfl | rfl | rfl
  · exact said1 x w
  · exact said2 x w
  · exact said3 x w
theorem with_any (k : Nat) (hk : k < 3) (x : Ipc) (v : UInt32) (w : World) : Calls Tryz.prog (fW k) #[.agg (lv x).toArray, .int .u32 v.toNat] w (WithQ (kd k) x v w) := by
  rcases (show k = 0 ∨ k = 1 ∨ k = 2 by omega) with rfl | rfl | rfl
  · exact with1 x v w
  · exact with2 x v w
  · exact with3 x v w
set_option maxRecDepth 100000 in
theorem said_enters (k : Nat) (hk : k < 3) : ∀ args w, (callFunc (fS k) args).run Tryz.prog w = .ok (.enter (fS k) args) w := by
  rcases (show k = 0 ∨ k = 1 ∨ k = 2 by omega) with rfl | rfl | rfl
  all_goals exact fun args w => by kernel_rfl
set_option maxRecDepth 100000 in
theorem with_enters (k : Nat) (hk : k < 3) : ∀ args w, (callFunc (fW k) args).run Tryz.prog w = .ok (.enter (fW k) args) w := by
  rcases (show k = 0 ∨ k = 1 ∨ k = 2 by omega) with rfl | rfl | rfl
  all_goals exact fun args w => by kernel_rfl
set_option maxRecDepth 100000 in
theorem index_ms (k : Nat) (hk : k < 3) (w : World) : (Instr.index 162 msV (.int .i64 (k : Nat))).run Tryz.prog w = .ok (.agg (mV k).toArray) w := by
  rcases (show k = 0 ∨ k = 1 ∨ k = 2 by omega) with rfl | rfl | rfl
  all_goals kernel_rfl
end Go.Proofs.YtikcgcgbcolndaaGreat.Ipc

/- A policy in a block. -/
namespace Go.Proofs.YtikcgcgbcolndaaGreat.Ipp
open Go.RowKit Go.Proofs.YtikcgcgbcolndaaGreat.Oct Go.Proofs.YtikcgcgbcolndaaGreat.Row Go.Proofs.YtikcgcgbcolndaaGreat.Mem Go.Proofs.YtikcgcgbcolndaaGreat.Opt Go.Proofs.YtikcgcgbcolndaaGreat.Ipc

/-- Policy p lies in block g. -/
def PAt (w : World) (g : Nat) (p : Po) : Prop := Blk w g (pv p) 102
theorem PAt.lt {w : World} {g : Nat} {p : Po} (h : PAt w g p) : g < w.heap.size := Blk.lt h
theorem PAt.c {w : World} {g : Nat} {p : Po} (h : PAt w g p) (i : Nat) : w.cell? ⟨g, i, none⟩ = (pv p)[i]? := Blk.at_ h i
theorem PAt.f {w : World} {g : Nat} {p : Po} (h : PAt w g p) (i : Nat) : w.frozen? ⟨g, i, none⟩ = false := Blk.frozen h i
theorem PAt.moves {S : Nat → Prop} {w w' : World} {g : Nat} {p : Po} (h : PAt w g p) (hm : Moves S w w') (hs : ¬ S g) : PAt w' g p := Blk.moves h hm hs
theorem PAt.callee {w w' : World} {g : Nat} {p : Po} (h : PAt w g p) (hb : Below w.heap.size w w') : PAt w' g p := Blk.callee h hb
theorem PAt.below {w w' : World} {g n : Nat} {p : Po} (h : PAt w g p) (hb : Below n w w') (hg : g < n) : PAt w' g p := Blk.below h hb hg
theorem PAt.alloc {w : World} {g : Nat} {p : Po} (h : PAt w g p) (o : Obj) : PAt (w.alloc o) g p := Blk.alloc h o
theorem PAt.drewN {w : World} {g : Nat} {p : Po} (h : PAt w g p) (k : Nat) : PAt (w.drewN k) g p := h
theorem set_moves (w : World) (g i : Nat) (v : Value) : Moves (fun k => k = g) w (w.setCell ⟨g, i, none⟩ v) := ⟨rfl, rfl, rfl, by simp [World.setCell], fun k _ hk => Below.heap_setCell _ _ _ _ hk⟩
theorem sets_moves (g : Nat) : ∀ (vs : List Value) (w : World) (i : Nat), Moves (fun k => k = g) w (w.setCells g i vs)
  | [], w, _ => Moves.refl _ w
  | v :: vs, w, i => (set_moves w g i v).trans (sets_moves g vs _ _) (fun _ _ h => h)
theorem Blk.mid {w : World} {g : Nat} {cs : List Value} {t : TypeId} (h : Blk w g cs t) (o n : Nat) : w.rangeAt g o ((cs.drop o).take n) := fun j v hv => by
  obtain ⟨hj, _⟩ := List.getElem?_eq_some_iff.1 hv
  rw [List.length_take] at hj
  rw [List.getElem?_take_of_lt (by omega), List.getElem?_drop] at hv
  rw [Blk.at_ h, hv]
theorem Blk.there {w : World} {g : Nat} {cs : List Value} {t : TypeId} (h : Blk w g cs t) (o n : Nat) (hn : o + n ≤ cs.length) : w.there g o n := fun j hj => by
  refine ⟨?_, Blk.frozen h _⟩
  rw [Blk.at_ h, List.getElem?_eq_getElem (by omega)]
  rfl
theorem PAt.conf {w : World} {g : Nat} {p : Po} (h : PAt w g p) : w.rangeAt g 6 (cv p.c) := Blk.mid h 6 6
theorem PAt.mine {w : World} {g : Nat} {p : Po} (h : PAt w g p) : w.rangeAt g 12 (lv p.mine) := Blk.mid h 12 6
theorem PAt.peer {w : World} {g : Nat} {p : Po} (h : PAt w g p) : w.rangeAt g 18 (lv p.peer) := Blk.mid h 18 6
theorem PAt.setMine {w : World} {g : Nat} {p : Po} (h : PAt w g p) (x : Ipc) : PAt (w.setCells g 12 (lv x)) g { p with mine := x } :=
  (((((Blk.set h 12 (.bool x.ha)).set 13 (.int .u32 x.addr.toNat)).set 14 (.bool x.h1)).set 15 (.int .u32 x.dns1.toNat)).set 16 (.bool x.h2)).set 17 (.int .u32 x.dns2.toNat)
theorem PAt.setPeer {w : World} {g : Nat} {p : Po} (h : PAt w g p) (x : Ipc) : PAt (w.setCells g 18 (lv x)) g { p with peer := x } :=
  (((((Blk.set h 18 (.bool x.ha)).set 19 (.int .u32 x.addr.toNat)).set 20 (.bool x.h1)).set 21 (.int .u32 x.dns1.toNat)).set 22 (.bool x.h2)).set 23 (.int .u32 x.dns2.toNat)
theorem PAt.setHa {w : World} {g : Nat} {p : Po} (h : PAt w g p) (v : Bool) : PAt (w.setCell ⟨g, 0, none⟩ (.bool v)) g { p with w := { p.w with ha := v } } := Blk.set h 0 (.bool v)
theorem PAt.setAddr {w : World} {g : Nat} {p : Po} (h : PAt w g p) (v : UInt32) : PAt (w.setCell ⟨g, 1, none⟩ (.int .u32 v.toNat)) g { p with w := { p.w with addr := v } } := Blk.set h 1 (.int .u32 v.toNat)
theorem PAt.setH1 {w : World} {g : Nat} {p : Po} (h : PAt w g p) (v : Bool) : PAt (w.setCell ⟨g, 2, none⟩ (.bool v)) g { p with w := { p.w with h1 := v } } := Blk.set h 2 (.bool v)
theorem PAt.setDns1 {w : World} {g : Nat} {p : Po} (h : PAt w g p) (v : UInt32) : PAt (w.setCell ⟨g, 3, none⟩ (.int .u32 v.toNat)) g { p with w := { p.w with dns1 := v } } := Blk.set h 3 (.int .u32 v.toNat)
theorem PAt.setH2 {w : World} {g : Nat} {p : Po} (h : PAt w g p) (v : Bool) : PAt (w.setCell ⟨g, 4, none⟩ (.bool v)) g { p with w := { p.w with h2 := v } } := Blk.set h 4 (.bool v)
theorem PAt.setDns2 {w : World} {g : Nat} {p : Po} (h : PAt w g p) (v : UInt32) : PAt (w.setCell ⟨g, 5, none⟩ (.int .u32 v.toNat)) g { p with w := { p.w with dns2 := v } } := Blk.set h 5 (.int .u32 v.toNat)
theorem PAt.setNaks {w : World} {g : Nat} {p : Po} (h : PAt w g p) (n : Nat) : PAt (w.setCell ⟨g, 24, none⟩ (.int .i64 n)) g { p with naks := n } := Blk.set h 24 (.int .i64 n)
/-- The wishes' cells. -/
theorem PAt.wish {w : World} {g : Nat} {p : Po} (h : PAt w g p) : w.cell? ⟨g, 0, none⟩ = some (Value.bool p.w.ha) ∧ w.cell? ⟨g, 1, none⟩ = some (.int .u32 p.w.addr.toNat) ∧ w.cell? ⟨g, 2, none⟩ = some (Value.bool p.w.h1) ∧ w.cell? ⟨g, 3, none⟩ = some (.int .u32 p.w.dns1.toNat) ∧ w.cell? ⟨g, 4, none⟩ = some (Value.bool p.w.h2) ∧ w.cell? ⟨g, 5, none⟩ = some (.int .u32 p.w.dns2.toNat) :=
  ⟨h.c 0, h.c 1, h.c 2, h.c 3, h.c 4, h.c 5⟩
/-- Any struct's cells. -/
theorem cells6 {w : World} {g : Nat} {x : Ipc} (h : LAt w g x) : w.cell? ⟨g, 0, none⟩ = some (Value.bool x.ha) ∧ w.cell? ⟨g, 1, none⟩ = some (.int .u32 x.addr.toNat) ∧ w.cell? ⟨g, 2, none⟩ = some (Value.bool x.h1) ∧ w.cell? ⟨g, 3, none⟩ = some (.int .u32 x.dns1.toNat) ∧ w.cell? ⟨g, 4, none⟩ = some (Value.bool x.h2) ∧ w.cell? ⟨g, 5, none⟩ = some (.int .u32 x.dns2.toNat) :=
  ⟨h.c 0, h.c 1, h.c 2, h.c 3, h.c 4, h.c 5⟩
/-- An answer that is a struct of six cells in a named result's block. -/
theorem res_ipc {f : Func} {p : Nat} {ty : TypeId} (hf : f.results = #[.cell p ty]) (tmps : Array Value) (W : World) (g : Nat) (x : Ipc) (hp : tmps.getD p undef = .pointer (some ⟨g, 0, none⟩)) (h : LAt W g x) (hu : Tryz.prog.underlying ty = Tryz.prog.underlying 52) (hi : (Tryz.prog.info? ty).map (·.size) = some 6) :
    (results f tmps).run Tryz.prog W = .ok (.agg (lv x).toArray) W := by
  rw [Tryz.underlying52] at hu
  exact results_cell_row hf tmps W g _ _ _ _ hp h hu rfl hi
set_option maxRecDepth 100000 in
theorem ipc_size (x : Ipc) : (Tryz.prog.info? 52).map (·.size) = some (lv x).toArray.size := by
  rw [List.size_toArray]
  kernel_rfl
theorem lv_one (x : Ipc) : (lv x).toArray.all (·.oneCell') = true := by
  refine all_oneCell_toArray fun v hv => ?_
  unfold lv at hv
  simp only [List.mem_cons, List.not_mem_nil, or_false] at hv
  rcases hv with rfl | rfl | rfl | rfl | rfl | rfl <;> rfl
theorem LAt.moves {S : Nat → Prop} {w w' : World} {g : Nat} {x : Ipc} (h : LAt w g x) (hm : Moves S w w') (hs : ¬ S g) : LAt w' g x := Blk.moves h hm hs
theorem lat_row {W : World} {g : Nat} {x : Ipc} (h : LAt W g x) (y : Ipc) : LAt (W.setRow g (lv y).toArray) g y := Blk.setRow h (lv y)
set_option maxRecDepth 100000 in
/-- The end: the struct was laid over the named result's. -/
theorem bet_res {f : Func} {p g0 : Nat} (hf : f.results = #[.cell p 52]) (tmps : Array Value) {W : World} {z : Ipc} (y : Ipc) (h : LAt W g0 z) (hp : tmps.getD p undef = .pointer (some ⟨g0, 0, none⟩)) :
    (results f tmps).run Tryz.prog (W.setRow g0 (lv y).toArray) = .ok (.agg (lv y).toArray) (W.setRow g0 (lv y).toArray) := res_ipc hf tmps _ g0 y hp (lat_row h y) rfl (by kernel_rfl)
/-- What a function of the map says: a struct. -/
def BetQ (y : Ipc) (w : World) (e : Ending) (w' : World) : Prop := e = .returned (.agg (lv y).toArray) ∧ Below w.heap.size w w'
theorem bet_q {w W : World} {g0 : Nat} (y : Ipc) (hB : Below w.heap.size w W) (hg : w.heap.size ≤ g0) : BetQ y w (.returned (.agg (lv y).toArray)) (W.setRow g0 (lv y).toArray) :=
  ⟨rfl, hB.trans ((moves_row W g0 _).below hB.size fun k e => by rw [e]; exact hg)⟩
theorem u32_ne0 (v : UInt32) : ((v.toNat : Int) != 0) = (v != 0) := by
  rw [Bool.eq_iff_iff, bne_iff_ne, bne_iff_ne]
  exact ⟨fun h e => h (by rw [e]; rfl), fun h e => h (UInt32.toNat_inj.1 (by show v.toNat = 0; omega))⟩
theorem u32_eq0 (v : UInt32) : ((v.toNat : Int) == 0) = (v == 0) := by
  rw [Bool.eq_iff_iff, beq_iff_eq, beq_iff_eq]
  exact ⟨fun h => UInt32.toNat_inj.1 (by show v.toNat = 0; omega), fun e => by rw [e]; rfl⟩
end Go.Proofs.YtikcgcgbcolndaaGreat.Ipp

/- Contracts: cmp.Or at numbers, the functions that better an option. -/
namespace Go.Proofs.YtikcgcgbcolndaaGreat.Ipp
open Go.RowKit Go.Proofs.YtikcgcgbcolndaaGreat.Oct Go.Proofs.YtikcgcgbcolndaaGreat.Row Go.Proofs.YtikcgcgbcolndaaGreat.Mem Go.Proofs.YtikcgcgbcolndaaGreat.Opt Go.Proofs.YtikcgcgbcolndaaGreat.Ipc

theorem cell_alloc {w : World} {p : Addr} {v : Value} (h : w.cell? p = some v) (o : Obj) : (w.alloc o).cell? p = some v := (((Below.refl _ w).alloc (Nat.le_refl _) o).cell (World.block_lt_of_cell? _ _ h)).trans h
/-- Two numbers in a block. -/
def Two32 (w : World) (g : Nat) (a b : UInt32) : Prop := Blk w g [.int .u32 a.toNat, .int .u32 b.toNat] 23
set_option maxHeartbeats 1000000 in
set_option maxRecDepth 100000 in
theorem or_any (a b : UInt32) (g : Nat) (w : World) (h : Two32 w g a b) : Calls Tryz.prog 249 #[.slice (some ⟨g, 0, none⟩) 2 2] w fun e w' => e = .returned (.int .u32 (or32 a b).toNat) ∧ w' = w := by
  have c0 : w.cell? ⟨g, 0, none⟩ = some (.int .u32 a.toNat) := Blk.at_ h 0
  have c1 : w.cell? ⟨g, 1, none⟩ = some (.int .u32 b.toNat) := Blk.at_ h 1
  have ha := u32_ne0 a
  have hb := u32_ne0 b
  clear h
  go_enter Tryz.func249, Tryz.ntmps249
  go_wp2
  go_loopw [8] (fun i wr => ∃ k : Nat, k ≤ 2 ∧ i = .int .i64 k ∧ Hid ((1 ≤ k → a = 0) ∧ (k = 2 → b = 0)) ∧ w = wr) (fun i _ => 2 - (intOf i).toNat)
  case atStart => exact ⟨0, Nat.zero_le _, rfl, ⟨fun h => absurd h (by omega), fun h => absurd h (by omega)⟩, rfl⟩
  case round =>
    obtain ⟨k, hk, rfl, HT, rfl⟩ := hrel
    by_cases h0 : k = 0
    · subst h0
      clear hk
      cases e : (a != 0)
      · rw [e] at ha
        have HA : Hid (a = 0) := bne0 e
        clear e
        go_wp2
        go_roundw
        case rel => exact ⟨1, by omega, by go_num, ⟨fun _ => HA.out, fun h => absurd h (by omega)⟩, by trivial⟩
        case measure => simp [intOf]
      · rw [e] at ha
        have HA : Hid (or32 a b = a) := if_neg (bne_iff_ne.1 e)
        clear e
        go_wp2
        go_ret
        exact ⟨by rw [HA.out] <;> rfl, rfl⟩
    · by_cases h1 : k = 1
      · subst h1
        have HA : Hid (or32 a b = b) := if_pos (HT.out.1 (Nat.le_refl _))
        clear hk h0
        cases e : (b != 0)
        · rw [e] at hb
          have HA : Hid (b = 0) := bne0 e
          clear e
          go_wp2
          go_roundw
          case rel => exact ⟨2, by omega, by go_num, ⟨fun _ => HT.out.1 (Nat.le_refl _), fun _ => HA.out⟩, by trivial⟩
          case measure => simp [intOf]
        · rw [e] at hb
          clear e
          go_wp2
          go_ret
          exact ⟨by rw [HA.out] <;> rfl, rfl⟩
      · obtain rfl : k = 2 := by omega
        have HA : Hid (or32 a b = 0) := by
          show _ = _
          rw [show or32 a b = b from if_pos (HT.out.1 (by omega)), HT.out.2 rfl]
        clear hk h0 h1
        go_wp2
        go_ret
        exact ⟨by rw [HA.out] <;> rfl, rfl⟩
set_option maxHeartbeats 2000000 in
set_option maxRecDepth 100000 in
theorem bet_addr (g : Nat) (p : Po) (x : Ipc) (w : World) (h : PAt w g p) : Calls Tryz.prog 243 #[.pointer (some ⟨g, 0, none⟩), .agg (lv x).toArray] w (BetQ (bet p 3 x) w) := by
  show Calls Tryz.prog 243 #[.pointer (some ⟨g, 0, none⟩), .agg #[Value.bool x.ha, .int .u32 x.addr.toNat, .bool x.h1, .int .u32 x.dns1.toNat, .bool x.h2, .int .u32 x.dns2.toNat]] w (BetQ ⟨or32 p.c.peer x.addr != 0, or32 p.c.peer x.addr, false, 0, false, 0⟩ w)
  obtain ⟨W, hW, HW⟩ := boxL2 w x
  have C1 := Lib.hid (or_any p.c.peer x.addr)
  obtain ⟨v, hv⟩ : ∃ v, or32 p.c.peer x.addr = v := ⟨_, rfl⟩
  rw [hv] at C1 ⊢
  clear hv
  have hn := u32_ne0 v
  have HP : Hid (PAt W g p) := h.callee HW.out.2.2
  have HB := Lib.hid HW.out.2.2
  have HZ := Lib.hid HW.out.2.1
  have p7 : W.drew.cell? ⟨g, 7, none⟩ = some (.int .u32 p.c.peer.toNat) := HP.out.c 7
  have x1 : W.drew.cell? ⟨w.heap.size, 1, none⟩ = some (.int .u32 x.addr.toNat) := HW.out.1.c 1
  have HA : Hid (∀ U : World, Two32 (U.alloc (.cells #[.int .u32 p.c.peer.toNat, .int .u32 x.addr.toNat] 23)).drew U.heap.size p.c.peer x.addr) := fun U => blk_new U [.int .u32 p.c.peer.toNat, .int .u32 x.addr.toNat] _
  clear h HW
  go_enter Tryz.func243, Tryz.ntmps243
  go_wp2
  clear hW
  go_region_held3 (fun w' => w'.cell? ⟨g, 7, none⟩ = some (.int .u32 p.c.peer.toNat) ∧ w'.cell? ⟨w.heap.size, 1, none⟩ = some (.int .u32 x.addr.toNat))
    (first | assumption | (refine ⟨?_, ?_⟩ <;> assumption) | (go_split_ands; refine ⟨?_, ?_⟩ <;> assumption) | (go_split_ands; refine ⟨?_, ?_⟩ <;> (apply cell_alloc; assumption)))
    (first
      | (go_at_call 249; (refine (C1.out _ _ (HA.out _)).mono ?_; rintro e w6 ⟨rfl, rfl⟩; have HB6 := Lib.hid (HB.out.alloc HB.out.size (.cells #[.int .u32 p.c.peer.toNat, .int .u32 x.addr.toNat] 23)).drew; have HZ6 : Hid (LAt (W.alloc (.cells #[.int .u32 p.c.peer.toNat, .int .u32 x.addr.toNat] 23)).drew (w.heap.size + 1) lz) := Blk.drew (HZ.out.alloc (.cells #[.int .u32 p.c.peer.toNat, .int .u32 x.addr.toNat] 23))))
      | fail)
  generalize (W.alloc (.cells #[.int .u32 p.c.peer.toNat, .int .u32 x.addr.toNat] 23)).drew = U at *
  go_wp2_with (first
    | (refine wpList_store_row rfl 52 _ _ rfl (w.heap.size + 1) (lv ⟨v != 0, v, false, 0, false, 0⟩).toArray rfl rfl 52 _ HZ6.out (ipc_size _) rfl (lv_one _) ?_))
  (try simp only [Exit.inBlock, Exit.then])
  refine bodyPost_ret (bet_res rfl _ _ HZ6.out rfl) rfl ?_
  exact bet_q _ HB6.out (Nat.le_succ _)
set_option maxHeartbeats 2000000 in
set_option maxRecDepth 100000 in
theorem bet_dns1 (g : Nat) (p : Po) (x : Ipc) (w : World) (h : PAt w g p) : Calls Tryz.prog 247 #[.pointer (some ⟨g, 0, none⟩), .agg (lv x).toArray] w (BetQ (bet p 129 x) w) := by
  show Calls Tryz.prog 247 #[.pointer (some ⟨g, 0, none⟩), .agg #[Value.bool x.ha, .int .u32 x.addr.toNat, .bool x.h1, .int .u32 x.dns1.toNat, .bool x.h2, .int .u32 x.dns2.toNat]] w (BetQ ⟨false, 0, p.c.dns1 != 0, p.c.dns1, false, 0⟩ w)
  obtain ⟨W, hW, HW⟩ := boxL2 w x
  have HP : Hid (PAt W g p) := h.callee HW.out.2.2
  have HB := Lib.hid HW.out.2.2
  have HZ : Hid (LAt W (w.heap.size + 1) lz) := HW.out.2.1
  have HS := Lib.hid HW.out.2.2.size
  have hgl : ¬ g = w.heap.size + 1 := by have := h.lt; omega
  have hgl2 : ¬ w.heap.size + 1 = g := fun e => hgl e.symm
  obtain ⟨v, hv⟩ : ∃ v, p.c.dns1 = v := ⟨_, rfl⟩
  have hn := u32_ne0 v
  have pc : W.cell? ⟨g, 8, none⟩ = some (.int .u32 v.toNat) := by rw [← hv]; exact HP.out.c 8
  rw [hv]
  obtain ⟨z0, z1, z2, z3, z4, z5⟩ := cells6 HW.out.2.1
  have f0 := HW.out.2.1.f 0
  have f1 := HW.out.2.1.f 1
  have f2 := HW.out.2.1.f 2
  have f3 := HW.out.2.1.f 3
  have f4 := HW.out.2.1.f 4
  have f5 := HW.out.2.1.f 5
  clear h HW hv
  go_enter Tryz.func247, Tryz.ntmps247
  go_wp2
  clear hW
  go_region
  go_wp2
  (try simp only [Exit.inBlock, Exit.then])
  have HF := Lib.hid ((((((Blk.set HZ.out 0 (.bool false)).set 1 (.int .u32 0)).set 2 (.bool (v != 0))).set 3 (.int .u32 v.toNat)).set 4 (.bool false)).set 5 (.int .u32 0))
  have HE := Lib.hid ((((((HB.out.setCell (p := ⟨w.heap.size + 1, 0, none⟩) (Nat.le_succ _) (.bool false)).setCell (p := ⟨w.heap.size + 1, 1, none⟩) (Nat.le_succ _) (.int .u32 0)).setCell (p := ⟨w.heap.size + 1, 2, none⟩) (Nat.le_succ _) (.bool (v != 0))).setCell (p := ⟨w.heap.size + 1, 3, none⟩) (Nat.le_succ _) (.int .u32 v.toNat)).setCell (p := ⟨w.heap.size + 1, 4, none⟩) (Nat.le_succ _) (.bool false)).setCell (p := ⟨w.heap.size + 1, 5, none⟩) (Nat.le_succ _) (.int .u32 0))
  refine bodyPost_ret (results_cell_row rfl _ _ (w.heap.size + 1) _ _ _ _ rfl (Blk.drew HF.out) Tryz.underlying52 rfl (by kernel_rfl)) rfl ?_
  exact ⟨rfl, HE.out.drew⟩
set_option maxHeartbeats 2000000 in
set_option maxRecDepth 100000 in
theorem bet_dns2 (g : Nat) (p : Po) (x : Ipc) (w : World) (h : PAt w g p) : Calls Tryz.prog 251 #[.pointer (some ⟨g, 0, none⟩), .agg (lv x).toArray] w (BetQ (bet p 131 x) w) := by
  show Calls Tryz.prog 251 #[.pointer (some ⟨g, 0, none⟩), .agg #[Value.bool x.ha, .int .u32 x.addr.toNat, .bool x.h1, .int .u32 x.dns1.toNat, .bool x.h2, .int .u32 x.dns2.toNat]] w (BetQ ⟨false, 0, false, 0, p.c.dns2 != 0, p.c.dns2⟩ w)
  obtain ⟨W, hW, HW⟩ := boxL2 w x
  have HP : Hid (PAt W g p) := h.callee HW.out.2.2
  have HB := Lib.hid HW.out.2.2
  have HZ : Hid (LAt W (w.heap.size + 1) lz) := HW.out.2.1
  have HS := Lib.hid HW.out.2.2.size
  have hgl : ¬ g = w.heap.size + 1 := by have := h.lt; omega
  have hgl2 : ¬ w.heap.size + 1 = g := fun e => hgl e.symm
  obtain ⟨v, hv⟩ : ∃ v, p.c.dns2 = v := ⟨_, rfl⟩
  have hn := u32_ne0 v
  have pc : W.cell? ⟨g, 9, none⟩ = some (.int .u32 v.toNat) := by rw [← hv]; exact HP.out.c 9
  rw [hv]
  obtain ⟨z0, z1, z2, z3, z4, z5⟩ := cells6 HW.out.2.1
  have f0 := HW.out.2.1.f 0
  have f1 := HW.out.2.1.f 1
  have f2 := HW.out.2.1.f 2
  have f3 := HW.out.2.1.f 3
  have f4 := HW.out.2.1.f 4
  have f5 := HW.out.2.1.f 5
  clear h HW hv
  go_enter Tryz.func251, Tryz.ntmps251
  go_wp2
  clear hW
  go_region
  go_wp2
  (try simp only [Exit.inBlock, Exit.then])
  have HF := Lib.hid ((((((Blk.set HZ.out 0 (.bool false)).set 1 (.int .u32 0)).set 2 (.bool false)).set 3 (.int .u32 0)).set 4 (.bool (v != 0))).set 5 (.int .u32 v.toNat))
  have HE := Lib.hid ((((((HB.out.setCell (p := ⟨w.heap.size + 1, 0, none⟩) (Nat.le_succ _) (.bool false)).setCell (p := ⟨w.heap.size + 1, 1, none⟩) (Nat.le_succ _) (.int .u32 0)).setCell (p := ⟨w.heap.size + 1, 2, none⟩) (Nat.le_succ _) (.bool false)).setCell (p := ⟨w.heap.size + 1, 3, none⟩) (Nat.le_succ _) (.int .u32 0)).setCell (p := ⟨w.heap.size + 1, 4, none⟩) (Nat.le_succ _) (.bool (v != 0))).setCell (p := ⟨w.heap.size + 1, 5, none⟩) (Nat.le_succ _) (.int .u32 v.toNat))
  refine bodyPost_ret (results_cell_row rfl _ _ (w.heap.size + 1) _ _ _ _ rfl (Blk.drew HF.out) Tryz.underlying52 rfl (by kernel_rfl)) rfl ?_
  exact ⟨rfl, HE.out.drew⟩
end Go.Proofs.YtikcgcgbcolndaaGreat.Ipp

/- Contracts of made, New. -/
namespace Go.Proofs.YtikcgcgbcolndaaGreat.Ipp
open Go.RowKit Go.Proofs.YtikcgcgbcolndaaGreat.Oct Go.Proofs.YtikcgcgbcolndaaGreat.Row Go.Proofs.YtikcgcgbcolndaaGreat.Mem Go.Proofs.YtikcgcgbcolndaaGreat.Opt Go.Proofs.YtikcgcgbcolndaaGreat.Ipc

def zc : Conf := ⟨0, 0, 0, 0, false, 0⟩
def zp : Po := ⟨lz, zc, lz, lz, 0⟩
/-- A configuration in a block. -/
def CAt (w : World) (g : Nat) (c : Conf) : Prop := Blk w g (cv c) 48
theorem CAt.all {w : World} {g : Nat} {c : Conf} (h : CAt w g c) : w.cell? ⟨g, 0, none⟩ = some (.int .u32 c.addr.toNat) ∧ w.cell? ⟨g, 1, none⟩ = some (.int .u32 c.peer.toNat) ∧ w.cell? ⟨g, 2, none⟩ = some (.int .u32 c.dns1.toNat) ∧ w.cell? ⟨g, 3, none⟩ = some (.int .u32 c.dns2.toNat) ∧ w.cell? ⟨g, 4, none⟩ = some (.bool c.want) ∧ w.cell? ⟨g, 5, none⟩ = some (.int .i64 c.mn) := ⟨Blk.at_ h 0, Blk.at_ h 1, Blk.at_ h 2, Blk.at_ h 3, Blk.at_ h 4, Blk.at_ h 5⟩
theorem CAt.callee {w w' : World} {g : Nat} {c : Conf} (h : CAt w g c) (hb : Below w.heap.size w w') : CAt w' g c := Blk.callee h hb
theorem cat_new (w : World) (c : Conf) : CAt (w.alloc (.cells (cv c).toArray 48)) w.heap.size c := blk_new w (cv c) _
theorem boxC (w : World) (c : Conf) : ∃ W, w.alloc (.cells #[Value.int .u32 c.addr.toNat, .int .u32 c.peer.toNat, .int .u32 c.dns1.toNat, .int .u32 c.dns2.toNat, .bool c.want, .int .i64 c.mn] 48) = W ∧ Hid (CAt W w.heap.size c ∧ Below w.heap.size w W ∧ W.heap.size = w.heap.size + 1) :=
  ⟨_, rfl, cat_new w c, (Below.refl w.heap.size w).alloc (Nat.le_refl _) _, by simp⟩
set_option maxRecDepth 100000 in
theorem pol_size (p : Po) : (Tryz.prog.info? 102).map (·.size) = some (pv p).toArray.size := by
  rw [List.size_toArray]
  kernel_rfl
theorem lv_ones (x : Ipc) : ∀ v ∈ lv x, v.oneCell' = true := by
  intro v hv
  unfold lv at hv
  simp only [List.mem_cons, List.not_mem_nil, or_false] at hv
  rcases hv with rfl | rfl | rfl | rfl | rfl | rfl <;> rfl
theorem cv_ones (c : Conf) : ∀ v ∈ cv c, v.oneCell' = true := by
  intro v hv
  unfold cv at hv
  simp only [List.mem_cons, List.not_mem_nil, or_false] at hv
  rcases hv with rfl | rfl | rfl | rfl | rfl | rfl <;> rfl
theorem pv_one (p : Po) : (pv p).toArray.all (·.oneCell') = true := by
  refine all_oneCell_toArray fun v hv => ?_
  unfold pv at hv
  simp only [List.mem_append] at hv
  rcases hv with h | h | h | h | h
  · exact lv_ones _ v h
  · exact cv_ones _ v h
  · exact lv_ones _ v h
  · exact lv_ones _ v h
  · simp only [List.mem_cons, List.not_mem_nil, or_false] at h
    rcases h with rfl
    rfl
theorem pat_new (w : World) (p : Po) : PAt (w.alloc (.cells (pv p).toArray 102)) w.heap.size p := blk_new w (pv p) _
theorem pat_row {W : World} {g : Nat} {p : Po} (h : PAt W g p) (q : Po) : PAt (W.setRow g (pv q).toArray) g q := Blk.setRow h (pv q)
/-- A named result that is a policy. -/
theorem pol_end {f : Func} {r : Nat} (hf : f.results = #[.cell r 102]) (tmps : Array Value) {W : World} {g : Nat} (p : Po) (h : PAt W g p) (hp : tmps.getD r undef = .pointer (some ⟨g, 0, none⟩)) :
    (results f tmps).run Tryz.prog W = .ok (.agg (pv p).toArray) W := results_cell_row hf tmps W g _ _ _ _ hp h Tryz.underlying102 rfl (pol_size p)
theorem boxCP (w : World) (c : Conf) : ∃ W, (w.alloc (.cells #[Value.int .u32 c.addr.toNat, .int .u32 c.peer.toNat, .int .u32 c.dns1.toNat, .int .u32 c.dns2.toNat, .bool c.want, .int .i64 c.mn] 48)).alloc (.cells #[Value.bool false, .int .u32 0, .bool false, .int .u32 0, .bool false, .int .u32 0, .int .u32 0, .int .u32 0, .int .u32 0, .int .u32 0, .bool false, .int .i64 0, .bool false, .int .u32 0, .bool false, .int .u32 0, .bool false, .int .u32 0, .bool false, .int .u32 0, .bool false, .int .u32 0, .bool false, .int .u32 0, .int .i64 0] 102) = W ∧ Hid (CAt W w.heap.size c ∧ PAt W (w.heap.size + 1) zp ∧ Below w.heap.size w W ∧ W.heap.size = w.heap.size + 1 + 1) :=
  ⟨_, rfl, Blk.alloc (cat_new w c) _, by have := pat_new (w.alloc (.cells (cv c).toArray 48)) zp; rw [World.size_alloc] at this; exact this, ((Below.refl w.heap.size w).alloc (Nat.le_refl _) _).alloc (by simp) _, by simp⟩
/-- The wishes in a block. -/
def WAt (w : World) (g : Nat) (x : Ipc) : Prop := Blk w g (lv x) 100
theorem wat_new (w : World) (x : Ipc) : WAt (w.alloc (.cells (lv x).toArray 100)) w.heap.size x := blk_new w (lv x) _
theorem boxW (W : World) (c : Conf) : ∃ V, W.alloc (.cells #[Value.bool true, .int .u32 c.addr.toNat, .bool c.want, .int .u32 0, .bool c.want, .int .u32 0] 100) = V ∧ Hid (WAt V W.heap.size (wish c) ∧ Below W.heap.size W V) :=
  ⟨_, rfl, wat_new W (wish c), (Below.refl _ _).alloc (Nat.le_refl _) _⟩
theorem WAt.all {w : World} {g : Nat} {c : Conf} (h : WAt w g (wish c)) : w.cell? ⟨g, 0, none⟩ = some (Value.bool true) ∧ w.cell? ⟨g, 1, none⟩ = some (.int .u32 c.addr.toNat) ∧ w.cell? ⟨g, 2, none⟩ = some (.bool c.want) ∧ w.cell? ⟨g, 3, none⟩ = some (.int .u32 0) ∧ w.cell? ⟨g, 4, none⟩ = some (.bool c.want) ∧ w.cell? ⟨g, 5, none⟩ = some (.int .u32 0) :=
  ⟨Blk.at_ h 0, Blk.at_ h 1, Blk.at_ h 2, Blk.at_ h 3, Blk.at_ h 4, Blk.at_ h 5⟩
set_option maxHeartbeats 8000000 in
set_option maxRecDepth 100000 in
theorem made_any (c : Conf) (w : World) : Calls Tryz.prog 43 #[.agg #[Value.int .u32 c.addr.toNat, .int .u32 c.peer.toNat, .int .u32 c.dns1.toNat, .int .u32 c.dns2.toNat, .bool c.want, .int .i64 c.mn]] w fun e w' => e = .returned (.agg (pv (newP c)).toArray) ∧ Below w.heap.size w w' := by
  obtain ⟨W, hW, HW⟩ := boxCP w c
  obtain ⟨c0, c1, c2, c3, c4, c5⟩ := HW.out.1.all
  have HC := Lib.hid HW.out.1
  have HP := Lib.hid HW.out.2.1
  have HB := Lib.hid HW.out.2.2.1
  obtain ⟨V, hV, HV⟩ := boxW W c
  subst hV
  have HPV := Lib.hid (HP.out.callee HV.out.2)
  have HBV := Lib.hid (HB.out.trans (HV.out.2.mono HB.out.size))
  obtain ⟨d0, d1, d2, d3, d4, d5⟩ := (HC.out.callee HV.out.2).all
  obtain ⟨x0, x1, x2, x3, x4, x5⟩ := WAt.all HV.out.1
  have HN := Lib.hid (pol_size (newP c))
  have HQ : Hid ((pv (newP c)).toArray = #[Value.bool true, .int .u32 c.addr.toNat, .bool c.want, .int .u32 0, .bool c.want, .int .u32 0, .int .u32 c.addr.toNat, .int .u32 c.peer.toNat, .int .u32 c.dns1.toNat, .int .u32 c.dns2.toNat, .bool c.want, .int .i64 c.mn, .bool false, .int .u32 0, .bool false, .int .u32 0, .bool false, .int .u32 0, .bool false, .int .u32 0, .bool false, .int .u32 0, .bool false, .int .u32 0, .int .i64 0]) := rfl
  clear HW HV HC HP HB
  go_enter Tryz.func43, Tryz.ntmps43
  go_wp2_with (refine wpList_store_row rfl 102 _ _ rfl (w.heap.size + 1) (pv (newP c)).toArray rfl (by rw [HQ.out] <;> rfl) 102 _ HPV.out HN.out rfl (pv_one _) ?_)
  (try simp only [Exit.inBlock, Exit.then])
  refine bodyPost_ret (pol_end rfl _ (newP c) (pat_row HPV.out (newP c)) rfl) rfl ?_
  exact ⟨rfl, HBV.out.trans ((moves_row _ (w.heap.size + 1) _).below HBV.out.size (fun k e => by rw [e]; exact Nat.le_succ _))⟩
set_option maxRecDepth 100000 in
theorem info_pol : (Tryz.prog.info? 102).map (fun i => (i.zero, i.size)) = some (some (.agg (pv zp).toArray), 25) := by kernel_rfl
theorem zero_pol (w : World) : (zeroValue 102).run Tryz.prog w = .ok (.agg (pv zp).toArray) w := (zero_of_info info_pol).1 w
/-- What New answers. -/
def NewQ (p : Po) (w : World) (e : Ending) (w' : World) : Prop := ∃ g, e = .returned (.tuple #[.pointer (some ⟨g, 0, none⟩), .int .i64 0]) ∧ w.heap.size ≤ g ∧ PAt w' g p ∧ Below w.heap.size w w'
set_option maxHeartbeats 4000000 in
set_option maxRecDepth 100000 in
theorem new_ok (c : Conf) (w : World) (h : mayC c = true) : Calls Tryz.prog 27 #[.agg #[Value.int .u32 c.addr.toNat, .int .u32 c.peer.toNat, .int .u32 c.dns1.toNat, .int .u32 c.dns2.toNat, .bool c.want, .int .i64 c.mn]] w (NewQ (newP c) w) := by
  obtain ⟨W, hW, HW⟩ := boxC w c
  obtain ⟨c0, c1, c2, c3, c4, c5⟩ := HW.out.1.all
  have HB := Lib.hid HW.out.2.1
  have hmn : ¬ c.mn < 1 ∧ ¬ 10 < c.mn := by unfold mayC at h; simp only [Bool.and_eq_true, decide_eq_true_eq] at h; omega
  have m1 := hmn.1
  have m2 := hmn.2
  have n1 := decide_eq_false hmn.1
  have n2 := decide_eq_false hmn.2
  have HM := Lib.hid (fun w => made_any c w)
  have HN := Lib.hid (pol_size (newP c))
  have HO := Lib.hid (pv_one (newP c))
  have HE : Hid (∀ W : World, PAt (W.alloc (.cells (pv (newP c)).toArray 102)) W.heap.size (newP c)) := fun W => pat_new W _
  have HZ : Hid ((pv zp).toArray.size = (pv (newP c)).toArray.size) := rfl
  have hz := zero_pol
  generalize (pv zp).toArray = zs at *
  generalize (pv (newP c)).toArray = cs at *
  clear h HW hmn
  go_enter Tryz.func27, Tryz.ntmps27
  go_wp2_with fail
  refine (HM.out _).mono ?_
  rintro e w2 ⟨rfl, hb2⟩
  have HB2 := Lib.hid (HB.out.trans (hb2.mono HB.out.size))
  clear hb2
  go_wp2_with (refine wpList_store_row rfl 102 _ _ rfl w2.heap.size cs rfl rfl 102 zs (World.alloc_heap_new w2 _) HN.out HZ.out HO.out ?_)
  go_ret2
  rw [World.setRow_alloc_new]
  exact ⟨_, rfl, HB2.out.size, HE.out w2, HB2.out.alloc HB2.out.size _⟩
set_option maxHeartbeats 4000000 in
set_option maxRecDepth 100000 in
theorem new_no (c : Conf) (w : World) (h : mayC c = false) : Calls Tryz.prog 27 #[.agg #[Value.int .u32 c.addr.toNat, .int .u32 c.peer.toNat, .int .u32 c.dns1.toNat, .int .u32 c.dns2.toNat, .bool c.want, .int .i64 c.mn]] w fun e w' => e = .returned (.tuple #[.pointer none, .int .i64 2]) ∧ Below w.heap.size w w' := by
  obtain ⟨W, hW, HW⟩ := boxC w c
  obtain ⟨c0, c1, c2, c3, c4, c5⟩ := HW.out.1.all
  have HB := Lib.hid HW.out.2.1
  by_cases hl : c.mn < 1
  · have n1 := decide_eq_true hl
    clear h HW
    go_enter Tryz.func27, Tryz.ntmps27
    go_wp2
    go_ret2
    exact ⟨rfl, HB.out⟩
  · have n1 := decide_eq_false hl
    have hg : 10 < c.mn := by unfold mayC at h; simp only [Bool.and_eq_false_iff, decide_eq_false_iff_not] at h; omega
    have n2 := decide_eq_true hg
    clear h HW
    go_enter Tryz.func27, Tryz.ntmps27
    go_wp2
    go_ret2
    exact ⟨rfl, HB.out⟩
end Go.Proofs.YtikcgcgbcolndaaGreat.Ipp

/- Contracts of ipcpopt's read and Good. -/
namespace Go.Proofs.YtikcgcgbcolndaaGreat.Ipc
open Go.RowKit Go.Proofs.YtikcgcgbcolndaaGreat.Oct Go.Proofs.YtikcgcgbcolndaaGreat.Row Go.Proofs.YtikcgcgbcolndaaGreat.Mem Go.Proofs.YtikcgcgbcolndaaGreat.Opt

/-- What stands while the three are gone over. -/
def Rnd (w wr : World) (o : Opt) (k : Nat) : Prop := At wr w.heap.size o ∧ Blk wr (w.heap.size + 1) [.int .u8 0, .nilFunc, .nilFunc] 161 ∧ (∀ j, j < k → kd j ≠ o.1) ∧ Below w.heap.size w wr
theorem Rnd.callee {w wr W' : World} {o : Opt} {k : Nat} (h : Rnd w wr o k) (hb : Below wr.heap.size wr W') : Rnd w W' o k := ⟨h.1.callee hb, Blk.callee h.2.1 hb, h.2.2.1, h.2.2.2.trans (hb.mono h.2.2.2.size)⟩
/-- None of the three: no meaning. -/
def mZ : List Value := [.int .u8 0, .nilFunc, .nilFunc]
/-- What read answers. -/
def ReadQ (o : Opt) (w : World) (e : Ending) (w' : World) : Prop :=
  ∃ (M : List Value) (A : Nat), e = .returned (.tuple #[.agg M.toArray, .int .u32 A, .bool (good o)]) ∧ ((∃ k, k < 3 ∧ kd k = o.1 ∧ M = mV k ∧ (good o = true → A = val o.2.toList)) ∨ (M = mZ ∧ good o = false)) ∧ Below w.heap.size w w'
theorem kd_known (k : Nat) (hk : k < 3) : known (kd k) = true := by
  rcases (show k = 0 ∨ k = 1 ∨ k = 2 by omega) with rfl | rfl | rfl <;> rfl
theorem known_kd {t : UInt8} (h : known t = true) : ∃ k, k < 3 ∧ kd k = t := by
  rcases known_cases h with rfl | rfl | rfl
  · exact ⟨0, by omega, rfl⟩
  · exact ⟨1, by omega, rfl⟩
  · exact ⟨2, by omega, rfl⟩
theorem three_set {W : World} {g : Nat} {a b c : Value} {t : TypeId} (h : Blk W g [a, b, c] t) (x y z : Value) : Blk (((W.setCell ⟨g, 0, none⟩ x).setCell ⟨g, 1, none⟩ y).setCell ⟨g, 2, none⟩ z) g [x, y, z] t := ((Blk.set h 0 x).set 1 y).set 2 z
theorem three_below {w W : World} {g n : Nat} (h : Below n w W) (hg : n ≤ g) (x y z : Value) : Below n w (((W.setCell ⟨g, 0, none⟩ x).setCell ⟨g, 1, none⟩ y).setCell ⟨g, 2, none⟩ z) := ((h.setCell (p := ⟨g, 0, none⟩) hg x).setCell (p := ⟨g, 1, none⟩) hg y).setCell (p := ⟨g, 2, none⟩) hg z
set_option maxHeartbeats 4000000 in
set_option maxRecDepth 100000 in
theorem read_opt (t : UInt8) (d : ByteArray) (w : World) (hd : d.size ≤ maxLen) : Calls Tryz.prog 244 #[.agg #[.int .u8 t.toNat, .string d]] w (ReadQ (t, d) w) := by
  have HC := Lib.hid meanings_any
  obtain ⟨W, hW, HW⟩ : ∃ W, (w.alloc (.cells #[.int .u8 t.toNat, .string d] 110)).alloc (.cells #[.int .u8 0, .nilFunc, .nilFunc] 161) = W ∧ Hid (Rnd w W (t, d) 0) := by
    refine ⟨_, rfl, (at_new w t d).alloc _, ?_, fun j h => by omega, ((Below.refl w.heap.size w).alloc (Nat.le_refl _) _).alloc (by simp) _⟩
    have := blk_new (w.alloc (.cells #[.int .u8 t.toNat, .string d] 110)) [.int .u8 0, .nilFunc, .nilFunc] 161
    rw [show (w.alloc (.cells #[.int .u8 t.toNat, .string d] 110)).heap.size = w.heap.size + 1 by simp] at this
    exact this
  have C1 : Hid (∀ W, Calls Tryz.prog 194 #[.string d] W fun e w' => e = .returned (.tuple #[.int .u32 (getN 4 d), .int .i64 (getE 4 d)]) ∧ ∃ k, w' = W.drewN k) := fun W => get32_any d W hd
  have HGG : Hid (good (t, d) = (known t && (getE 4 d == 0)) ∧ (d.size = 4 → getN 4 d = val d.toList)) := by
    refine ⟨?_, fun h => by unfold getN; rw [if_neg (by omega), if_neg (by omega)]⟩
    unfold good
    congr 1
    unfold getE
    by_cases h1 : d.size < 4
    · rw [if_pos h1]; simp; omega
    · rw [if_neg h1]
      by_cases h2 : 4 < d.size
      · rw [if_pos h2]; simp; omega
      · rw [if_neg h2]; simp; omega
  generalize getE 4 d = E at *
  generalize getN 4 d = A at *
  go_enter Tryz.func244, Tryz.ntmps244
  go_wp2_with fail
  refine (HC.out _).mono ?_
  rintro e w1 ⟨rfl, hb1⟩
  have HR1 := Lib.hid (HW.out.callee hb1)
  clear hb1 hW HW HC
  go_wp2
  go_loopw [10] (fun i wr => ∃ k : Nat, k ≤ 3 ∧ i = .int .i64 k ∧ Hid (Rnd w wr (t, d) k)) (fun i _ => 3 - (intOf i).toNat)
  case atStart => exact ⟨0, Nat.zero_le _, rfl, HR1⟩
  case round =>
    obtain ⟨k, hk, rfl, HR⟩ := hrel
    by_cases hlt : k < 3
    · have hl1 : (k : Int) < 3 := by omega
      have hix : ∀ W, (Instr.index 162 msV (.int .i64 (k : Nat))).run Tryz.prog W = .ok (.agg #[.int .u8 (kd k).toNat, .func (.func (fS k)) #[] #[], .func (.func (fW k)) #[] #[]]) W := fun W => index_ms k hlt W
      have HM : Hid (mV k = [.int .u8 (kd k).toNat, .func (.func (fS k)) #[] #[], .func (.func (fW k)) #[] #[]]) := rfl
      have HK := Lib.hid (kd_known k hlt)
      obtain ⟨V1, hV1, HV1⟩ : ∃ V1, wr.alloc (.cells #[.int .u8 (kd k).toNat, .func (.func (fS k)) #[] #[], .func (.func (fW k)) #[] #[]] 161) = V1 ∧ Hid (Blk V1 wr.heap.size [.int .u8 (kd k).toNat, .func (.func (fS k)) #[] #[], .func (.func (fW k)) #[] #[]] 161 ∧ Below wr.heap.size wr V1) := ⟨_, rfl, blk_new _ _ _, (Below.refl _ _).alloc (Nat.le_refl _) _⟩
      have HS1 := Lib.hid (HR.out.callee HV1.out.2)
      have m0 : V1.cell? ⟨wr.heap.size, 0, none⟩ = some (.int .u8 (kd k).toNat) := Blk.at_ HV1.out.1 0
      have m1 : V1.cell? ⟨wr.heap.size, 1, none⟩ = some (.func (.func (fS k)) #[] #[]) := Blk.at_ HV1.out.1 1
      have m2 : V1.cell? ⟨wr.heap.size, 2, none⟩ = some (.func (.func (fW k)) #[] #[]) := Blk.at_ HV1.out.1 2
      have o0 : V1.cell? ⟨w.heap.size, 0, none⟩ = some (.int .u8 t.toNat) := HS1.out.1.c0
      have o1 : V1.cell? ⟨w.heap.size, 1, none⟩ = some (.string d) := HS1.out.1.c1
      generalize fS k = S at *
      generalize fW k = R at *
      by_cases ht : kd k = t
      · have ht2 : (((kd k).toNat : Int) == (t.toNat : Int)) = true := by rw [ht]; simp
        have HT := Lib.hid ht
        clear ht
        go_wp2_with fail
        refine (C1.out _).mono ?_
        rintro e w2 ⟨rfl, q, hw2⟩
        have hb2 : Below V1.heap.size V1 w2 := by rw [hw2]; exact (Below.refl _ _).drewN' q
        have HS2 := Lib.hid (HS1.out.callee hb2)
        have HM2 := Lib.hid (Blk.callee HV1.out.1 hb2)
        clear hw2 hb2 hV1 m0 m1 m2 o0 o1 HS1 HV1
        have m0 : w2.cell? ⟨wr.heap.size, 0, none⟩ = some (.int .u8 (kd k).toNat) := Blk.at_ HM2.out 0
        have m1 : w2.cell? ⟨wr.heap.size, 1, none⟩ = some (.func (.func S) #[] #[]) := Blk.at_ HM2.out 1
        have m2 : w2.cell? ⟨wr.heap.size, 2, none⟩ = some (.func (.func R) #[] #[]) := Blk.at_ HM2.out 2
        have r0 : w2.cell? ⟨w.heap.size + 1, 0, none⟩ = some (.int .u8 0) := Blk.at_ HS2.out.2.1 0
        have r1 : w2.cell? ⟨w.heap.size + 1, 1, none⟩ = some .nilFunc := Blk.at_ HS2.out.2.1 1
        have r2 : w2.cell? ⟨w.heap.size + 1, 2, none⟩ = some .nilFunc := Blk.at_ HS2.out.2.1 2
        have f0 : w2.frozen? ⟨w.heap.size + 1, 0, none⟩ = false := Blk.frozen HS2.out.2.1 0
        have f1 : w2.frozen? ⟨w.heap.size + 1, 1, none⟩ = false := Blk.frozen HS2.out.2.1 1
        have f2 : w2.frozen? ⟨w.heap.size + 1, 2, none⟩ = false := Blk.frozen HS2.out.2.1 2
        go_wp2
        have HR := three_set HS2.out.2.1 (.int .u8 (kd k).toNat) (.func (.func S) #[] #[]) (.func (.func R) #[] #[])
        have HBe := three_below (g := w.heap.size + 1) HS2.out.2.2.2 (Nat.le_succ _) (.int .u8 (kd k).toNat) (.func (.func S) #[] #[]) (.func (.func R) #[] #[])
        (try simp only [Exit.inBlock, Exit.then])
        refine bodyPost_ret (results_row2 rfl _ _ (w.heap.size + 1) _ _ _ rfl HR Tryz.underlying161 rfl (by kernel_rfl)) rfl ?_
        have hgd : good (t, d) = (E == 0) := by
          have hk := HK.out
          rw [HT.out] at hk
          rw [HGG.out.1, hk]
          rfl
        refine ⟨[.int .u8 (kd k).toNat, .func (.func S) #[] #[], .func (.func R) #[] #[]], A, ?_, .inl ⟨k, hlt, HT.out, HM.out.symm, fun hg => HGG.out.2 (good_size hg)⟩, HBe⟩
        rw [hgd]
        rfl
      · have ht2 : (((kd k).toNat : Int) == (t.toNat : Int)) = false := by rw [beq_eq_false_iff_ne]; intro e; exact ht (UInt8.toNat_inj.1 (by omega))
        have HT := Lib.hid ht
        clear ht
        have HS3 : Hid (Rnd w V1 (t, d) (k + 1)) := ⟨HS1.out.1, HS1.out.2.1, fun j hj => by
          rcases Nat.lt_succ_iff_lt_or_eq.1 hj with h | rfl
          · exact HS1.out.2.2.1 j h
          · exact HT.out, HS1.out.2.2.2⟩
        go_wp2
        go_roundw
        case rel => exact ⟨k + 1, by omega, by go_num, HS3⟩
        case measure => simp [intOf]; omega
    · have hl1 : ¬ (k : Int) < 3 := by omega
      have HN : Hid (good (t, d) = false) := by
        show _ = _
        rw [Bool.eq_false_iff]
        intro h
        obtain ⟨j, hj, e⟩ := known_kd (good_known h)
        exact HR.out.2.2.1 j (by omega) e
      have r0 : wr.cell? ⟨w.heap.size + 1, 0, none⟩ = some (.int .u8 0) := Blk.at_ HR.out.2.1 0
      have r1 : wr.cell? ⟨w.heap.size + 1, 1, none⟩ = some .nilFunc := Blk.at_ HR.out.2.1 1
      have r2 : wr.cell? ⟨w.heap.size + 1, 2, none⟩ = some .nilFunc := Blk.at_ HR.out.2.1 2
      have f0 : wr.frozen? ⟨w.heap.size + 1, 0, none⟩ = false := Blk.frozen HR.out.2.1 0
      have f1 : wr.frozen? ⟨w.heap.size + 1, 1, none⟩ = false := Blk.frozen HR.out.2.1 1
      have f2 : wr.frozen? ⟨w.heap.size + 1, 2, none⟩ = false := Blk.frozen HR.out.2.1 2
      go_wp2
      have HR2 := three_set HR.out.2.1 (.int .u8 0) .nilFunc .nilFunc
      have HBe := three_below (g := w.heap.size + 1) HR.out.2.2.2 (Nat.le_succ _) (.int .u8 0) .nilFunc .nilFunc
      (try simp only [Exit.inBlock, Exit.then])
      refine bodyPost_ret (results_row2 rfl _ _ (w.heap.size + 1) _ _ _ rfl HR2 Tryz.underlying161 rfl (by kernel_rfl)) rfl ?_
      refine ⟨mZ, 0, ?_, .inr ⟨rfl, HN.out⟩, HBe⟩
      rw [HN.out]
      rfl
set_option maxHeartbeats 1000000 in
set_option maxRecDepth 100000 in
theorem good_any (t : UInt8) (d : ByteArray) (w : World) (hd : d.size ≤ maxLen) : Calls Tryz.prog 254 #[.agg #[.int .u8 t.toNat, .string d]] w fun e w' => e = .returned (.bool (good (t, d))) ∧ Below w.heap.size w w' := by
  have C := Lib.hid (fun W => read_opt t d W hd)
  obtain ⟨W, hW, HW⟩ : ∃ W, w.alloc (.cells #[.int .u8 t.toNat, .string d] 110) = W ∧ Hid (At W w.heap.size (t, d) ∧ Below w.heap.size w W) := ⟨_, rfl, at_new w t d, (Below.refl _ _).alloc (Nat.le_refl _) _⟩
  have o0 : W.cell? ⟨w.heap.size, 0, none⟩ = some (.int .u8 t.toNat) := HW.out.1.c0
  have o1 : W.cell? ⟨w.heap.size, 1, none⟩ = some (.string d) := HW.out.1.c1
  go_enter Tryz.func254, Tryz.ntmps254
  go_wp2_with fail
  refine (C.out _).mono ?_
  rintro e w1 ⟨M, A, rfl, hM, hb1⟩
  have HB := Lib.hid (HW.out.2.trans (hb1.mono HW.out.2.size))
  clear hb1 C hW HW o0 o1
  rcases hM with ⟨k, hk, -, rfl, -⟩ | ⟨rfl, -⟩
  · unfold mV
    generalize fS k = S at *
    generalize fW k = R at *
    have HB2 := Lib.hid (HB.out.alloc HB.out.size (.cells #[.int .u8 (kd k).toNat, .func (.func S) #[] #[], .func (.func R) #[] #[]] 161))
    go_wp2
    go_ret
    exact ⟨rfl, HB2.out⟩
  · unfold mZ
    have HB2 := Lib.hid (HB.out.alloc HB.out.size (.cells #[.int .u8 0, .nilFunc, .nilFunc] 161))
    go_wp2
    go_ret
    exact ⟨rfl, HB2.out⟩
end Go.Proofs.YtikcgcgbcolndaaGreat.Ipc

/- Contract of ipcpopt's Put. -/
namespace Go.Proofs.YtikcgcgbcolndaaGreat.Ipc
open Go.RowKit Go.Proofs.YtikcgcgbcolndaaGreat.Oct Go.Proofs.YtikcgcgbcolndaaGreat.Row Go.Proofs.YtikcgcgbcolndaaGreat.Mem Go.Proofs.YtikcgcgbcolndaaGreat.Opt

/-- What the first k of the three are put as. -/
def gat (x : Ipc) (k : Nat) : List Opt := (six.take k).filterMap fun t => if has t x then some (t, dat t x) else none
theorem gat_three (x : Ipc) : gat x 3 = put x := rfl
theorem gat_next (x : Ipc) (k : Nat) (hk : k < 3) : gat x (k + 1) = gat x k ++ (if has (kd k) x then [(kd k, dat (kd k) x)] else []) := by
  have h : six.take (k + 1) = six.take k ++ [kd k] := by
    rcases (show k = 0 ∨ k = 1 ∨ k = 2 by omega) with rfl | rfl | rfl <;> rfl
  unfold gat
  rw [h, List.filterMap_append]
  congr 1
  rw [List.filterMap_cons]
  cases has (kd k) x <;> simp
theorem gat_yes {x : Ipc} {k : Nat} (hk : k < 3) (h : has (kd k) x = true) : gat x (k + 1) = gat x k ++ [(kd k, dat (kd k) x)] := by rw [gat_next x k hk, h]; rfl
theorem gat_no {x : Ipc} {k : Nat} (hk : k < 3) (h : has (kd k) x = false) : gat x (k + 1) = gat x k := by rw [gat_next x k hk, h]; exact List.append_nil _
theorem gat_size (x : Ipc) (k : Nat) : ∀ o ∈ gat x k, o.2.size ≤ 140737488351232 := by
  intro o ho
  obtain ⟨t, _, h⟩ := List.mem_filterMap.1 ho
  split at h
  · cases h
    show (bOf (numS _ 4)).size ≤ _
    rw [size_bOf, numS_length]
    omega
  · cases h
theorem gat_len (x : Ipc) (k : Nat) : (gat x k).length ≤ k := Nat.le_trans (List.length_filterMap_le _ _) (by rw [List.length_take]; exact Nat.min_le_left _ _)
/-- What Put answers. -/
def pL (x : Ipc) : List Opt := if may x then put x else []
def pE (x : Ipc) : Nat := if may x then 0 else 2
theorem pL_yes {x : Ipc} (h : may x = true) : pL x = put x ∧ pE x = 0 := by unfold pL pE; rw [h]; exact ⟨rfl, rfl⟩
theorem pL_no {x : Ipc} (h : may x = false) : pL x = [] ∧ pE x = 2 := by unfold pL pE; rw [h]; exact ⟨rfl, rfl⟩
theorem may_kd {x : Ipc} : may x = true ↔ ∀ k, k < 3 → has (kd k) x = false → adr (kd k) x = 0 := by
  rw [may_iff]
  constructor
  · rintro ⟨h1, h2, h3⟩ k hk
    rcases (show k = 0 ∨ k = 1 ∨ k = 2 by omega) with rfl | rfl | rfl
    · exact h1
    · exact h2
    · exact h3
  · intro h
    exact ⟨h 0 (by omega), h 1 (by omega), h 2 (by omega)⟩
def PutQ (x : Ipc) (w : World) (e : Ending) (w' : World) : Prop := ∃ A c, e = .returned (.tuple #[.slice A (pL x).length c, .int .i64 (pE x)]) ∧ (A = none → c = 0) ∧ Opts w' w'.heap.size A (pL x).length (pL x) ∧ Below w.heap.size w w'
/-- .. with the row's room. -/
def PutR (x : Ipc) (w : World) (e : Ending) (w' : World) : Prop := ∃ A c, e = .returned (.tuple #[.slice A (pL x).length c, .int .i64 (pE x)]) ∧ (A = none → c = 0) ∧ Opts w' w'.heap.size A (pL x).length (pL x) ∧ Below w.heap.size w w' ∧ (pL x).length ≤ c
/-- What stands ahead of the k-th. -/
def Pts (w wr : World) (x : Ipc) (k n : Nat) (A : Option Addr) (c : Nat) : Prop := LAt wr w.heap.size x ∧ wr.ownsRow (w.heap.size + 1) 110 2 (.slice A n c) n (optsV (gat x k)) ∧ n = (gat x k).length ∧ (∀ j, j < k → has (kd j) x = false → adr (kd j) x = 0) ∧ Below w.heap.size w wr
theorem Pts.callee {w wr W' : World} {x : Ipc} {k n : Nat} {A : Option Addr} {c : Nat} (h : Pts w wr x k n A c) (hb : Below wr.heap.size wr W') : Pts w W' x k n A c :=
  ⟨h.1.callee hb, (Moves.of_below (S := fun _ => False) hb).row h.2.1 (fun _ _ x => x), h.2.2.1, h.2.2.2.1, h.2.2.2.2.trans (hb.mono h.2.2.2.2.size)⟩
theorem Pts.skip {w wr : World} {x : Ipc} {k n : Nat} {A : Option Addr} {c : Nat} (h : Pts w wr x k n A c) (hk : k < 3) (hh : has (kd k) x = false) (ha : adr (kd k) x = 0) : Pts w wr x (k + 1) n A c := by
  obtain ⟨h1, h2, h3, h4, h5⟩ := h
  refine ⟨h1, by rw [gat_no hk hh]; exact h2, by rw [gat_no hk hh]; exact h3, fun j hj hf => ?_, h5⟩
  rcases Nat.lt_succ_iff_lt_or_eq.1 hj with hj | rfl
  · exact h4 j hj hf
  · exact ha
theorem own_nil {w : World} {base n c : Nat} {e : TypeId} {A : Option Addr} {xs : List Value} (h : w.ownsRow base e 2 (.slice A n c) n xs) : A = none → c = 0 := by
  rintro rfl
  rcases h.2 with ⟨e', _⟩ | ⟨g, cap, cur, e', _⟩
  · cases e'; rfl
  · cases e'
set_option maxHeartbeats 4000000 in
set_option maxRecDepth 100000 in
theorem own_room {w : World} {base n c : Nat} {e : TypeId} {A : Option Addr} {xs : List Value} (h : w.ownsRow base e 2 (.slice A n c) n xs) : n ≤ c := by
  rcases h.2 with ⟨_, h2⟩ | ⟨g, cap, cur, e', _, _, h2, _⟩
  · rw [h2]; exact Nat.zero_le _
  · rw [(Value.slice.inj e').2.2]; exact h2
set_option maxHeartbeats 4000000 in
set_option maxRecDepth 100000 in
theorem put_room (x : Ipc) (w : World) : Calls Tryz.prog 56 #[.agg (lv x).toArray] w (PutR x w) := by
  show Calls Tryz.prog 56 #[.agg #[Value.bool x.ha, .int .u32 x.addr.toNat, .bool x.h1, .int .u32 x.dns1.toNat, .bool x.h2, .int .u32 x.dns2.toNat]] w (PutR x w)
  obtain ⟨i0, hi, hz0, hz1, hz2⟩ := info_parts Tryz.info110
  have HC := Lib.hid meanings_any
  obtain ⟨W, hW, HW⟩ := boxL w x
  have HP : Hid (Pts w W x 0 0 none 0) := ⟨HW.out.1, World.ownsRow_nil _ _ _ _, rfl, fun j h => by omega, HW.out.2.1⟩
  clear HW
  go_enter Tryz.func56, Tryz.ntmps56
  go_wp2_with fail
  refine (HC.out _).mono ?_
  rintro e w1 ⟨rfl, hb1⟩
  have HP1 := Lib.hid (HP.out.callee hb1)
  clear hb1 hW HP HC
  go_wp2
  go_loopw [4, 10] (fun v i wr => ∃ (k n : Nat) (A : Option Addr) (c : Nat), k ≤ 3 ∧ n ≤ 3 ∧ i = .int .i64 k ∧ v = .slice A n c ∧ Hid (Pts w wr x k n A c)) (fun _ i _ => 3 - (intOf i).toNat)
  case atStart => exact ⟨0, 0, none, 0, Nat.zero_le _, Nat.zero_le _, rfl, rfl, HP1⟩
  case round =>
    obtain ⟨k, n, A, c, hk, hn3, rfl, rfl, HR⟩ := hrel
    by_cases hlt : k < 3
    · have hl1 : (k : Int) < 3 := by omega
      have hix : ∀ W, (Instr.index 162 msV (.int .i64 (k : Nat))).run Tryz.prog W = .ok (.agg #[.int .u8 (kd k).toNat, .func (.func (fS k)) #[] #[], .func (.func (fW k)) #[] #[]]) W := fun W => index_ms k hlt W
      have C1 : Hid (∀ W, Calls Tryz.prog (fS k) #[.agg #[Value.bool x.ha, .int .u32 x.addr.toNat, .bool x.h1, .int .u32 x.dns1.toNat, .bool x.h2, .int .u32 x.dns2.toNat]] W (SaidQ (kd k) x W)) := fun W => said_any k hlt x W
      have hen := said_enters k hlt
      have C2 : Hid (∀ W, Calls Tryz.prog 75 #[.int .u32 (adr (kd k) x).toNat] W fun e w' => e = .returned (.string (dat (kd k) x)) ∧ Below W.heap.size W w') := fun W => put32_any _ W (by have := (adr (kd k) x).toNat_lt; omega)
      obtain ⟨V1, hV1, HV1⟩ : ∃ V1, wr.alloc (.cells #[.int .u8 (kd k).toNat, .func (.func (fS k)) #[] #[], .func (.func (fW k)) #[] #[]] 161) = V1 ∧ Hid (Blk V1 wr.heap.size [.int .u8 (kd k).toNat, .func (.func (fS k)) #[] #[], .func (.func (fW k)) #[] #[]] 161 ∧ Below wr.heap.size wr V1) := ⟨_, rfl, blk_new _ _ _, (Below.refl _ _).alloc (Nat.le_refl _) _⟩
      have HS1 := Lib.hid (HR.out.callee HV1.out.2)
      have m0 : V1.cell? ⟨wr.heap.size, 0, none⟩ = some (.int .u8 (kd k).toNat) := Blk.at_ HV1.out.1 0
      have m1 : V1.cell? ⟨wr.heap.size, 1, none⟩ = some (.func (.func (fS k)) #[] #[]) := Blk.at_ HV1.out.1 1
      have x0 : V1.cell? ⟨w.heap.size, 0, none⟩ = some (Value.bool x.ha) := HS1.out.1.c 0
      have x1 : V1.cell? ⟨w.heap.size, 1, none⟩ = some (.int .u32 x.addr.toNat) := HS1.out.1.c 1
      have x2 : V1.cell? ⟨w.heap.size, 2, none⟩ = some (.bool x.h1) := HS1.out.1.c 2
      have x3 : V1.cell? ⟨w.heap.size, 3, none⟩ = some (.int .u32 x.dns1.toNat) := HS1.out.1.c 3
      have x4 : V1.cell? ⟨w.heap.size, 4, none⟩ = some (.bool x.h2) := HS1.out.1.c 4
      have x5 : V1.cell? ⟨w.heap.size, 5, none⟩ = some (.int .u32 x.dns2.toNat) := HS1.out.1.c 5
      unfold SaidQ at C1
      have HY : Hid (has (kd k) x = true → gat x (k + 1) = gat x k ++ [(kd k, dat (kd k) x)]) := gat_yes hlt
      have HZ : Hid (has (kd k) x = false → adr (kd k) x = 0 → ∀ W n A c, Pts w W x k n A c → Pts w W x (k + 1) n A c) := fun h1 h2 W n A c h => h.skip hlt h1 h2
      have HF : Hid (has (kd k) x = false → adr (kd k) x ≠ 0 → may x = false) := fun h1 h2 => by
        rw [Bool.eq_false_iff]
        intro h
        exact h2 (may_kd.1 h k hlt h1)
      have HD : Hid ((dat (kd k) x).size = 4) := by show (bOf _).size = 4; rw [size_bOf, numS_length]
      generalize fS k = S at *
      generalize fW k = R at *
      go_wp2_with fail
      refine (C1.out _).mono ?_
      rintro e w2 ⟨rfl, hb2⟩
      have HS2 := Lib.hid (HS1.out.callee hb2)
      have HM2 := Lib.hid (Blk.callee HV1.out.1 hb2)
      clear hb2 hV1 HV1 HS1 HR C1 hen hix m0 m1 x0 x1 x2 x3 x4 x5
      obtain ⟨b, Hb⟩ : ∃ b, Hid (b = has (kd k) x) := ⟨_, rfl⟩
      rw [← Hb.out] at HY HZ HF
      rw [← Hb.out]
      cases b
      · have HZ2 := Lib.hid (HZ.out rfl)
        have HF2 := Lib.hid (HF.out rfl)
        clear HY HZ HF C2 HD HM2
        by_cases ha : adr (kd k) x = 0
        · have HS3 := Lib.hid (HZ2.out ha _ _ _ _ HS2.out)
          have ht : (((adr (kd k) x).toNat : Int) != 0) = false := by rw [ha]; rfl
          clear HZ2 HF2 ha
          generalize adr (kd k) x = a at *
          go_wp2
          go_roundw
          case rel => exact ⟨k + 1, n, A, c, by omega, hn3, by go_num, rfl, HS3⟩
          case measure => simp [intOf]; omega
        · have HM := Lib.hid (HF2.out ha)
          have ht : (((adr (kd k) x).toNat : Int) != 0) = true := by
            rw [bne_iff_ne]
            intro e
            exact ha (UInt32.toNat_inj.1 (by show _ = 0; omega))
          clear HZ2 HF2 ha
          generalize adr (kd k) x = a at *
          go_wp2
          go_ret2
          refine ⟨none, 0, ?_, fun _ => rfl, ?_, HS2.out.2.2.2.2, by rw [(pL_no HM.out).1]; exact Nat.le_refl _⟩
          · rw [(pL_no HM.out).1, (pL_no HM.out).2]; rfl
          · rw [(pL_no HM.out).1]; exact opts_nil _ _
      · have HY2 := Lib.hid (HY.out rfl)
        clear HZ HF HY
        have m0 : w2.cell? ⟨wr.heap.size, 0, none⟩ = some (.int .u8 (kd k).toNat) := Blk.at_ HM2.out 0
        generalize hs : dat (kd k) x = s at *
        clear hs
        generalize adr (kd k) x = a at *
        go_wp2
        have m0d : w2.drew.cell? ⟨wr.heap.size, 0, none⟩ = some (.int .u8 (kd k).toNat) := m0
        have HSd : Hid (Pts w w2.drew x k n A c) := HS2.out.callee (Below.refl _ w2).drew
        have HMd : Hid (Blk w2.drew wr.heap.size [.int .u8 (kd k).toNat, .func (.func S) #[] #[], .func (.func R) #[] #[]] 161) := HM2.out
        go_region_held3 (fun w' => w'.cell? ⟨wr.heap.size, 0, none⟩ = some (.int .u8 (kd k).toNat))
          (first | assumption)
          (first
            | (go_at_call 75; (refine (C2.out _).mono ?_; clear C2; rintro e w6 ⟨rfl, hb6⟩; have y1 := (hb6.cell (p := ⟨wr.heap.size, 0, none⟩) (World.block_lt_of_cell? _ _ m0d)).trans m0d; have HS6 := Lib.hid (HSd.out.callee hb6); have HO6 := Lib.hid HS6.out.2.1; have HM6 := Lib.hid (Blk.alloc (Blk.callee HMd.out hb6) (.cells #[.int .u8 (kd k).toNat, .string s] 110)); have HSz6 := HS6.out.2.2.2.2.size; have y2 : (w6.alloc (.cells #[.int .u8 (kd k).toNat, .string s] 110)).cell? ⟨wr.heap.size, 0, none⟩ = some (.int .u8 (kd k).toNat) := ((Below.refl _ w6).alloc (Nat.le_refl _) _ |>.cell (p := ⟨wr.heap.size, 0, none⟩) (World.block_lt_of_cell? _ _ y1)).trans y1))
            | (refine step_append_any (w6.alloc (.cells #[.int .u8 (kd k).toNat, .string s] 110)) (by rfl) _ _ _ (by rfl) (w.heap.size + 1) 110 i0 _ 2 24 Tryz.underlying71 hi hz0 hz1 hz2 rfl (by decide) (.slice A n c) n (optsV (gat x k)) (by rfl) (HO6.out.alloc _) ⟨w6.heap.size, 0, none⟩ 1 1 (optsV [(kd k, s)]) (by rfl) (by rfl) (by rw [optsV_one]; exact cells_new _ _ _) (optsV_ones _) (by unfold maxLen; omega) (by omega) (by simp; omega) ?_; intro v7 w7 hown7 hgr7 _; have HM7 : Blk w7 wr.heap.size [.int .u8 (kd k).toNat, .func (.func S) #[] #[], .func (.func R) #[] #[]] 161 := Blk.moves HM6.out (Moves.of_grown hgr7 (fun k e _ => e)) (fun e => cells_not_row HM6.out (by decide) (HO6.out.alloc _) e); have y3 : w7.cell? ⟨wr.heap.size, 0, none⟩ = some (.int .u8 (kd k).toNat) := Blk.at_ HM7 0; clear HM7)
            | fail)
        have HS7 : Hid (∃ A' c', v7 = .slice A' (n + 1) c' ∧ Pts w w7 x (k + 1) (n + 1) A' c') := by
          obtain ⟨g', cap', rfl⟩ := ownsRow_succ hown7
          have hx := HS6.out.callee ((Below.refl _ w6).alloc (Nat.le_refl _) (.cells #[.int .u8 (kd k).toNat, .string s] 110))
          refine ⟨_, cap', rfl, Blk.moves hx.1 (Moves.of_grown hgr7 (fun k e _ => e)) (fun e => cells_not_row hx.1 (by decide) hx.2.1 e), ?_, ?_, fun j hj hf => ?_, hx.2.2.2.2.grown hgr7 hx.2.2.2.2.size (fun q hq => by have := (hx.2.1.lt q hq).1; omega)⟩
          · rw [HY2.out, optsV_append]; exact hown7
          · rw [HY2.out, List.length_append, ← hx.2.2.1]; rfl
          · rcases Nat.lt_succ_iff_lt_or_eq.1 hj with hj | rfl
            · exact hx.2.2.2.1 j hj hf
            · rw [← Hb.out] at hf; cases hf
        have hn2 : n ≤ 2 := by
          have := gat_len x k
          rw [← HS2.out.2.2.1] at this
          omega
        clear hown7 hgr7 y1 y2 y3
        obtain ⟨A', c', rfl, hs7⟩ := HS7.out
        have HS8 := Lib.hid hs7
        clear HS7 hs7
        go_wp2
        go_roundw
        case rel => exact ⟨k + 1, n + 1, A', c', by omega, by omega, by go_num, rfl, HS8⟩
        case measure => simp [intOf]; omega
    · have hl1 : ¬ (k : Int) < 3 := by omega
      have HK : Hid (k = 3) := by show k = 3; omega
      go_wp2
      go_ret2
      obtain ⟨h1, h2, h3, h4, h5⟩ := HR.out
      have hm : may x = true := may_kd.2 fun j hj hf => h4 j (by omega) hf
      rw [HK.out, gat_three] at h2 h3
      refine ⟨A, c, ?_, own_nil h2, ?_, h5, by rw [(pL_yes hm).1, ← h3]; exact own_room h2⟩
      · rw [(pL_yes hm).1, (pL_yes hm).2, ← h3]; rfl
      · rw [(pL_yes hm).1, ← h3]
        obtain ⟨A', c', e', ho⟩ := opts_own h2 (fun o ho => gat_size x 3 o ho)
        cases e'
        exact ho
theorem put_any (x : Ipc) (w : World) : Calls Tryz.prog 56 #[.agg (lv x).toArray] w (PutQ x w) :=
  (put_room x w).mono fun _ _ ⟨A, c, h1, h2, h3, h4, _⟩ => ⟨A, c, h1, h2, h3, h4⟩
end Go.Proofs.YtikcgcgbcolndaaGreat.Ipc
