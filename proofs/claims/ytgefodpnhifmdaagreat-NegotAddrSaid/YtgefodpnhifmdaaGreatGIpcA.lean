/- Put together: IpcA, IppMem, IppA, IppD. -/
import Derived.Test.YtgefodpnhifmdaaGreatGOpts
import Derived.Test.YtgefodpnhifmdaaGreatGet32
import Derived.Test.YtgefodpnhifmdaaGreatGConvNew
import Derived.Deep.RegionHeld3
import Derived.RegionTactic
import Derived.BigQuiet
import Derived.Laws.EntriesVeiled
import Derived.Deep.MidRow
import Derived.Laws.Rows
import Derived.Laws.Tables
import Derived.Deep.QuietTactic
import Derived.Maps.RangeRun
import Derived.Maps.Keyed
import Derived.Carry
import Derived.Shelf.Abstract
import Derived.KernelRfl

/- The struct in a block; contracts of ipcpopt's meanings and of their six functions. -/
namespace Go.Proofs.YtgefodpnhifmdaaGreat.Ipc
open Go.RowKit Go.Proofs.YtgefodpnhifmdaaGreat.Oct Go.Proofs.YtgefodpnhifmdaaGreat.Row Go.Proofs.YtgefodpnhifmdaaGreat.Mem Go.Proofs.YtgefodpnhifmdaaGreat.Opt

/-- The struct lies in block g. -/
def LAt (W : World) (g : Nat) (x : Ipc) : Prop := Blk W g (lv x) 40
theorem LAt.callee {W W' : World} {g : Nat} {x : Ipc} (h : LAt W g x) (hb : Below W.heap.size W W') : LAt W' g x := Blk.callee h hb
theorem LAt.below {W W' : World} {g n : Nat} {x : Ipc} (h : LAt W g x) (hb : Below n W W') (hg : g < n) : LAt W' g x := Blk.below h hb hg
theorem LAt.alloc {W : World} {g : Nat} {x : Ipc} (h : LAt W g x) (o : Obj) : LAt (W.alloc o) g x := Blk.alloc h o
theorem LAt.lt {W : World} {g : Nat} {x : Ipc} (h : LAt W g x) : g < W.heap.size := Blk.lt h
theorem lat_new (W : World) (x : Ipc) : LAt (W.alloc (.cells (lv x).toArray 40)) W.heap.size x := blk_new W (lv x) _
theorem LAt.c {W : World} {g : Nat} {x : Ipc} (h : LAt W g x) (i : Nat) : W.cell? ⟨g, i, none⟩ = (lv x)[i]? := Blk.at_ h i
theorem LAt.f {W : World} {g : Nat} {x : Ipc} (h : LAt W g x) (i : Nat) : W.frozen? ⟨g, i, none⟩ = false := Blk.frozen h i
/-- A struct of six cells in a block, once it is boxed. -/
theorem boxL (w : World) (x : Ipc) : ∃ W, w.alloc (.cells #[Value.bool x.ha, .int .u32 x.addr.toNat, .bool x.h1, .int .u32 x.dns1.toNat, .bool x.h2, .int .u32 x.dns2.toNat] 40) = W ∧ Hid (LAt W w.heap.size x ∧ Below w.heap.size w W ∧ W.heap.size = w.heap.size + 1) :=
  ⟨_, rfl, lat_new w x, (Below.refl w.heap.size w).alloc (Nat.le_refl _) _, by simp⟩
/-- .. and the named result behind it. -/
theorem boxL2 (w : World) (x : Ipc) : ∃ W, (w.alloc (.cells #[Value.bool x.ha, .int .u32 x.addr.toNat, .bool x.h1, .int .u32 x.dns1.toNat, .bool x.h2, .int .u32 x.dns2.toNat] 40)).alloc (.cells #[Value.bool false, .int .u32 0, .bool false, .int .u32 0, .bool false, .int .u32 0] 40) = W ∧ Hid (LAt W w.heap.size x ∧ LAt W (w.heap.size + 1) lz ∧ Below w.heap.size w W) :=
  ⟨_, rfl, (lat_new w x).alloc _, by have := lat_new (w.alloc (.cells (lv x).toArray 40)) lz; rw [show (w.alloc (.cells (lv x).toArray 40)).heap.size = w.heap.size + 1 by simp] at this; exact this, ((Below.refl w.heap.size w).alloc (Nat.le_refl _) _).alloc (by simp) _⟩
/-- A struct is laid over another one. -/
def setL (W : World) (g : Nat) (c : List Value) : World :=
  (((((W.setCell ⟨g, 0, none⟩ (c.getD 0 undef)).setCell ⟨g, 1, none⟩ (c.getD 1 undef)).setCell ⟨g, 2, none⟩ (c.getD 2 undef)).setCell ⟨g, 3, none⟩ (c.getD 3 undef)).setCell ⟨g, 4, none⟩ (c.getD 4 undef)).setCell ⟨g, 5, none⟩ (c.getD 5 undef)
theorem setL_blk {W : World} {g : Nat} {x y : Ipc} (h : LAt W g x) : LAt (setL W g (lv y)) g y :=
  (((((Blk.set h 0 (.bool y.ha)).set 1 (.int .u32 y.addr.toNat)).set 2 (.bool y.h1)).set 3 (.int .u32 y.dns1.toNat)).set 4 (.bool y.h2)).set 5 (.int .u32 y.dns2.toNat)
theorem setL_moves (W : World) (g : Nat) (c : List Value) : Moves (fun k => k = g) W (setL W g c) :=
  (((((((Moves.refl (fun k => k = g) W).setCell ⟨g, 0, none⟩ (fun _ => rfl) _).setCell ⟨g, 1, none⟩ (fun _ => rfl) _).setCell ⟨g, 2, none⟩ (fun _ => rfl) _).setCell ⟨g, 3, none⟩ (fun _ => rfl) _).setCell ⟨g, 4, none⟩ (fun _ => rfl) _).setCell ⟨g, 5, none⟩ (fun _ => rfl) _)
theorem setL_below {W w : World} {g n : Nat} (h : Below n w W) (hn : n ≤ W.heap.size) (hg : n ≤ g) (c : List Value) : Below n w (setL W g c) :=
  h.trans ((setL_moves W g c).below hn (fun k e => by subst e; exact hg))

theorem blk_other {w : World} {k : Nat} {cs : List Value} {t : TypeId} (h : Blk w k cs t) {p : Addr} (hk : k ≠ p.block) (u : Value) : Blk (w.setCell p u) k cs t := (Below.heap_setCell w p u k hk).trans h
/-- What 'said' answers. -/
def SaidQ (t : UInt8) (x : Ipc) (w : World) (e : Ending) (w' : World) : Prop := e = .returned (.tuple #[.int .u32 (adr t x).toNat, .bool (has t x)]) ∧ Below w.heap.size w w'
/-- What 'with' answers. -/
def WithQ (t : UInt8) (x : Ipc) (v : UInt32) (w : World) (e : Ending) (w' : World) : Prop := e = .returned (.agg (lv (set t x v)).toArray) ∧ Below w.heap.size w w'
set_option maxRecDepth 100000 in
theorem said1 (x : Ipc) (w : World) : Calls Tryz.prog 147 #[.agg #[Value.bool x.ha, .int .u32 x.addr.toNat, .bool x.h1, .int .u32 x.dns1.toNat, .bool x.h2, .int .u32 x.dns2.toNat]] w (SaidQ 3 x w) := by
  show Calls Tryz.prog 147 #[.agg #[Value.bool x.ha, .int .u32 x.addr.toNat, .bool x.h1, .int .u32 x.dns1.toNat, .bool x.h2, .int .u32 x.dns2.toNat]] w fun e w' => e = .returned (.tuple #[.int .u32 x.addr.toNat, .bool x.ha]) ∧ Below w.heap.size w w'
  obtain ⟨W, hW, HW⟩ := boxL w x
  have HB := Lib.hid HW.out.2.1
  have c1 : W.cell? ⟨w.heap.size, 1, none⟩ = some (.int .u32 x.addr.toNat) := HW.out.1.c 1
  have c2 : W.cell? ⟨w.heap.size, 0, none⟩ = some (.bool x.ha) := HW.out.1.c 0
  clear HW
  go_enter Tryz.func147, Tryz.ntmps147
  go_wp2
  clear hW
  go_quiet (fail)
  go_wp2
  go_ret2
  exact ⟨rfl, HB.out.drewN' _⟩
set_option maxRecDepth 100000 in
theorem said2 (x : Ipc) (w : World) : Calls Tryz.prog 149 #[.agg #[Value.bool x.ha, .int .u32 x.addr.toNat, .bool x.h1, .int .u32 x.dns1.toNat, .bool x.h2, .int .u32 x.dns2.toNat]] w (SaidQ 129 x w) := by
  show Calls Tryz.prog 149 #[.agg #[Value.bool x.ha, .int .u32 x.addr.toNat, .bool x.h1, .int .u32 x.dns1.toNat, .bool x.h2, .int .u32 x.dns2.toNat]] w fun e w' => e = .returned (.tuple #[.int .u32 x.dns1.toNat, .bool x.h1]) ∧ Below w.heap.size w w'
  obtain ⟨W, hW, HW⟩ := boxL w x
  have HB := Lib.hid HW.out.2.1
  have c1 : W.cell? ⟨w.heap.size, 3, none⟩ = some (.int .u32 x.dns1.toNat) := HW.out.1.c 3
  have c2 : W.cell? ⟨w.heap.size, 2, none⟩ = some (.bool x.h1) := HW.out.1.c 2
  clear HW
  go_enter Tryz.func149, Tryz.ntmps149
  go_wp2
  clear hW
  go_quiet (fail)
  go_wp2
  go_ret2
  exact ⟨rfl, HB.out.drewN' _⟩
set_option maxRecDepth 100000 in
theorem said3 (x : Ipc) (w : World) : Calls Tryz.prog 151 #[.agg #[Value.bool x.ha, .int .u32 x.addr.toNat, .bool x.h1, .int .u32 x.dns1.toNat, .bool x.h2, .int .u32 x.dns2.toNat]] w (SaidQ 131 x w) := by
  show Calls Tryz.prog 151 #[.agg #[Value.bool x.ha, .int .u32 x.addr.toNat, .bool x.h1, .int .u32 x.dns1.toNat, .bool x.h2, .int .u32 x.dns2.toNat]] w fun e w' => e = .returned (.tuple #[.int .u32 x.dns2.toNat, .bool x.h2]) ∧ Below w.heap.size w w'
  obtain ⟨W, hW, HW⟩ := boxL w x
  have HB := Lib.hid HW.out.2.1
  have c1 : W.cell? ⟨w.heap.size, 5, none⟩ = some (.int .u32 x.dns2.toNat) := HW.out.1.c 5
  have c2 : W.cell? ⟨w.heap.size, 4, none⟩ = some (.bool x.h2) := HW.out.1.c 4
  clear HW
  go_enter Tryz.func151, Tryz.ntmps151
  go_wp2
  clear hW
  go_quiet (fail)
  go_wp2
  go_ret2
  exact ⟨rfl, HB.out.drewN' _⟩
set_option maxHeartbeats 1000000 in
set_option maxRecDepth 100000 in
theorem with1 (x : Ipc) (v : UInt32) (w : World) : Calls Tryz.prog 148 #[.agg #[Value.bool x.ha, .int .u32 x.addr.toNat, .bool x.h1, .int .u32 x.dns1.toNat, .bool x.h2, .int .u32 x.dns2.toNat], .int .u32 v.toNat] w (WithQ 3 x v w) := by
  show Calls Tryz.prog 148 #[.agg #[Value.bool x.ha, .int .u32 x.addr.toNat, .bool x.h1, .int .u32 x.dns1.toNat, .bool x.h2, .int .u32 x.dns2.toNat], .int .u32 v.toNat] w fun e w' => e = .returned (.agg #[Value.bool true, .int .u32 v.toNat, .bool x.h1, .int .u32 x.dns1.toNat, .bool x.h2, .int .u32 x.dns2.toNat]) ∧ Below w.heap.size w w'
  obtain ⟨W, hW, HW⟩ := boxL2 w x
  have HX := Lib.hid HW.out.1
  have HZ := Lib.hid HW.out.2.1
  have HB := Lib.hid HW.out.2.2
  clear HW
  have c0 : W.cell? ⟨w.heap.size, 0, none⟩ = some (Value.bool x.ha) := HX.out.c 0
  have c1 : W.cell? ⟨w.heap.size, 1, none⟩ = some (.int .u32 x.addr.toNat) := HX.out.c 1
  have c2 : W.cell? ⟨w.heap.size, 2, none⟩ = some (.bool x.h1) := HX.out.c 2
  have c3 : W.cell? ⟨w.heap.size, 3, none⟩ = some (.int .u32 x.dns1.toNat) := HX.out.c 3
  have c4 : W.cell? ⟨w.heap.size, 4, none⟩ = some (.bool x.h2) := HX.out.c 4
  have c5 : W.cell? ⟨w.heap.size, 5, none⟩ = some (.int .u32 x.dns2.toNat) := HX.out.c 5
  have f0 : W.frozen? ⟨w.heap.size, 0, none⟩ = false := HX.out.f 0
  have f1 : W.frozen? ⟨w.heap.size, 1, none⟩ = false := HX.out.f 1
  have d0 : W.cell? ⟨w.heap.size + 1, 0, none⟩ = some (Value.bool false) := HZ.out.c 0
  have g0 : W.frozen? ⟨w.heap.size + 1, 0, none⟩ = false := HZ.out.f 0
  have d1 : W.cell? ⟨w.heap.size + 1, 1, none⟩ = some (.int .u32 0) := HZ.out.c 1
  have g1 : W.frozen? ⟨w.heap.size + 1, 1, none⟩ = false := HZ.out.f 1
  have d2 : W.cell? ⟨w.heap.size + 1, 2, none⟩ = some (.bool false) := HZ.out.c 2
  have g2 : W.frozen? ⟨w.heap.size + 1, 2, none⟩ = false := HZ.out.f 2
  have d3 : W.cell? ⟨w.heap.size + 1, 3, none⟩ = some (.int .u32 0) := HZ.out.c 3
  have g3 : W.frozen? ⟨w.heap.size + 1, 3, none⟩ = false := HZ.out.f 3
  have d4 : W.cell? ⟨w.heap.size + 1, 4, none⟩ = some (.bool false) := HZ.out.c 4
  have g4 : W.frozen? ⟨w.heap.size + 1, 4, none⟩ = false := HZ.out.f 4
  have d5 : W.cell? ⟨w.heap.size + 1, 5, none⟩ = some (.int .u32 0) := HZ.out.c 5
  have g5 : W.frozen? ⟨w.heap.size + 1, 5, none⟩ = false := HZ.out.f 5
  go_enter Tryz.func148, Tryz.ntmps148
  go_wp2
  have HZ2 := Lib.hid (blk_other (blk_other HZ.out (p := ⟨w.heap.size, 0, none⟩) (show w.heap.size + 1 ≠ w.heap.size by omega) (.bool true)) (p := ⟨w.heap.size, 1, none⟩) (show w.heap.size + 1 ≠ w.heap.size by omega) (.int .u32 v.toNat))
  have HR := setL_blk (y := set 3 x v) HZ2.out
  have HB2 := (HB.out.setCell (p := ⟨w.heap.size, 0, none⟩) (Nat.le_refl _) (.bool true)).setCell (p := ⟨w.heap.size, 1, none⟩) (Nat.le_refl _) (.int .u32 v.toNat)
  have HBe := setL_below HB2 HB2.size (g := w.heap.size + 1) (Nat.le_succ _) (lv (set 3 x v))
  refine bodyPost_ret (results_cell_row rfl _ _ (w.heap.size + 1) _ _ _ _ rfl HR Tryz.underlying40 rfl (by kernel_rfl)) rfl ?_
  exact ⟨rfl, HBe⟩
set_option maxHeartbeats 1000000 in
set_option maxRecDepth 100000 in
theorem with2 (x : Ipc) (v : UInt32) (w : World) : Calls Tryz.prog 150 #[.agg #[Value.bool x.ha, .int .u32 x.addr.toNat, .bool x.h1, .int .u32 x.dns1.toNat, .bool x.h2, .int .u32 x.dns2.toNat], .int .u32 v.toNat] w (WithQ 129 x v w) := by
  show Calls Tryz.prog 150 #[.agg #[Value.bool x.ha, .int .u32 x.addr.toNat, .bool x.h1, .int .u32 x.dns1.toNat, .bool x.h2, .int .u32 x.dns2.toNat], .int .u32 v.toNat] w fun e w' => e = .returned (.agg #[Value.bool x.ha, .int .u32 x.addr.toNat, .bool true, .int .u32 v.toNat, .bool x.h2, .int .u32 x.dns2.toNat]) ∧ Below w.heap.size w w'
  obtain ⟨W, hW, HW⟩ := boxL2 w x
  have HX := Lib.hid HW.out.1
  have HZ := Lib.hid HW.out.2.1
  have HB := Lib.hid HW.out.2.2
  clear HW
  have c0 : W.cell? ⟨w.heap.size, 0, none⟩ = some (Value.bool x.ha) := HX.out.c 0
  have c1 : W.cell? ⟨w.heap.size, 1, none⟩ = some (.int .u32 x.addr.toNat) := HX.out.c 1
  have c2 : W.cell? ⟨w.heap.size, 2, none⟩ = some (.bool x.h1) := HX.out.c 2
  have c3 : W.cell? ⟨w.heap.size, 3, none⟩ = some (.int .u32 x.dns1.toNat) := HX.out.c 3
  have c4 : W.cell? ⟨w.heap.size, 4, none⟩ = some (.bool x.h2) := HX.out.c 4
  have c5 : W.cell? ⟨w.heap.size, 5, none⟩ = some (.int .u32 x.dns2.toNat) := HX.out.c 5
  have f0 : W.frozen? ⟨w.heap.size, 2, none⟩ = false := HX.out.f 2
  have f1 : W.frozen? ⟨w.heap.size, 3, none⟩ = false := HX.out.f 3
  have d0 : W.cell? ⟨w.heap.size + 1, 0, none⟩ = some (Value.bool false) := HZ.out.c 0
  have g0 : W.frozen? ⟨w.heap.size + 1, 0, none⟩ = false := HZ.out.f 0
  have d1 : W.cell? ⟨w.heap.size + 1, 1, none⟩ = some (.int .u32 0) := HZ.out.c 1
  have g1 : W.frozen? ⟨w.heap.size + 1, 1, none⟩ = false := HZ.out.f 1
  have d2 : W.cell? ⟨w.heap.size + 1, 2, none⟩ = some (.bool false) := HZ.out.c 2
  have g2 : W.frozen? ⟨w.heap.size + 1, 2, none⟩ = false := HZ.out.f 2
  have d3 : W.cell? ⟨w.heap.size + 1, 3, none⟩ = some (.int .u32 0) := HZ.out.c 3
  have g3 : W.frozen? ⟨w.heap.size + 1, 3, none⟩ = false := HZ.out.f 3
  have d4 : W.cell? ⟨w.heap.size + 1, 4, none⟩ = some (.bool false) := HZ.out.c 4
  have g4 : W.frozen? ⟨w.heap.size + 1, 4, none⟩ = false := HZ.out.f 4
  have d5 : W.cell? ⟨w.heap.size + 1, 5, none⟩ = some (.int .u32 0) := HZ.out.c 5
  have g5 : W.frozen? ⟨w.heap.size + 1, 5, none⟩ = false := HZ.out.f 5
  go_enter Tryz.func150, Tryz.ntmps150
  go_wp2
  have HZ2 := Lib.hid (blk_other (blk_other HZ.out (p := ⟨w.heap.size, 2, none⟩) (show w.heap.size + 1 ≠ w.heap.size by omega) (.bool true)) (p := ⟨w.heap.size, 3, none⟩) (show w.heap.size + 1 ≠ w.heap.size by omega) (.int .u32 v.toNat))
  have HR := setL_blk (y := set 129 x v) HZ2.out
  have HB2 := (HB.out.setCell (p := ⟨w.heap.size, 2, none⟩) (Nat.le_refl _) (.bool true)).setCell (p := ⟨w.heap.size, 3, none⟩) (Nat.le_refl _) (.int .u32 v.toNat)
  have HBe := setL_below HB2 HB2.size (g := w.heap.size + 1) (Nat.le_succ _) (lv (set 129 x v))
  refine bodyPost_ret (results_cell_row rfl _ _ (w.heap.size + 1) _ _ _ _ rfl HR Tryz.underlying40 rfl (by kernel_rfl)) rfl ?_
  exact ⟨rfl, HBe⟩
set_option maxHeartbeats 1000000 in
set_option maxRecDepth 100000 in
theorem with3 (x : Ipc) (v : UInt32) (w : World) : Calls Tryz.prog 152 #[.agg #[Value.bool x.ha, .int .u32 x.addr.toNat, .bool x.h1, .int .u32 x.dns1.toNat, .bool x.h2, .int .u32 x.dns2.toNat], .int .u32 v.toNat] w (WithQ 131 x v w) := by
  show Calls Tryz.prog 152 #[.agg #[Value.bool x.ha, .int .u32 x.addr.toNat, .bool x.h1, .int .u32 x.dns1.toNat, .bool x.h2, .int .u32 x.dns2.toNat], .int .u32 v.toNat] w fun e w' => e = .returned (.agg #[Value.bool x.ha, .int .u32 x.addr.toNat, .bool x.h1, .int .u32 x.dns1.toNat, .bool true, .int .u32 v.toNat]) ∧ Below w.heap.size w w'
  obtain ⟨W, hW, HW⟩ := boxL2 w x
  have HX := Lib.hid HW.out.1
  have HZ := Lib.hid HW.out.2.1
  have HB := Lib.hid HW.out.2.2
  clear HW
  have c0 : W.cell? ⟨w.heap.size, 0, none⟩ = some (Value.bool x.ha) := HX.out.c 0
  have c1 : W.cell? ⟨w.heap.size, 1, none⟩ = some (.int .u32 x.addr.toNat) := HX.out.c 1
  have c2 : W.cell? ⟨w.heap.size, 2, none⟩ = some (.bool x.h1) := HX.out.c 2
  have c3 : W.cell? ⟨w.heap.size, 3, none⟩ = some (.int .u32 x.dns1.toNat) := HX.out.c 3
  have c4 : W.cell? ⟨w.heap.size, 4, none⟩ = some (.bool x.h2) := HX.out.c 4
  have c5 : W.cell? ⟨w.heap.size, 5, none⟩ = some (.int .u32 x.dns2.toNat) := HX.out.c 5
  have f0 : W.frozen? ⟨w.heap.size, 4, none⟩ = false := HX.out.f 4
  have f1 : W.frozen? ⟨w.heap.size, 5, none⟩ = false := HX.out.f 5
  have d0 : W.cell? ⟨w.heap.size + 1, 0, none⟩ = some (Value.bool false) := HZ.out.c 0
  have g0 : W.frozen? ⟨w.heap.size + 1, 0, none⟩ = false := HZ.out.f 0
  have d1 : W.cell? ⟨w.heap.size + 1, 1, none⟩ = some (.int .u32 0) := HZ.out.c 1
  have g1 : W.frozen? ⟨w.heap.size + 1, 1, none⟩ = false := HZ.out.f 1
  have d2 : W.cell? ⟨w.heap.size + 1, 2, none⟩ = some (.bool false) := HZ.out.c 2
  have g2 : W.frozen? ⟨w.heap.size + 1, 2, none⟩ = false := HZ.out.f 2
  have d3 : W.cell? ⟨w.heap.size + 1, 3, none⟩ = some (.int .u32 0) := HZ.out.c 3
  have g3 : W.frozen? ⟨w.heap.size + 1, 3, none⟩ = false := HZ.out.f 3
  have d4 : W.cell? ⟨w.heap.size + 1, 4, none⟩ = some (.bool false) := HZ.out.c 4
  have g4 : W.frozen? ⟨w.heap.size + 1, 4, none⟩ = false := HZ.out.f 4
  have d5 : W.cell? ⟨w.heap.size + 1, 5, none⟩ = some (.int .u32 0) := HZ.out.c 5
  have g5 : W.frozen? ⟨w.heap.size + 1, 5, none⟩ = false := HZ.out.f 5
  go_enter Tryz.func152, Tryz.ntmps152
  go_wp2
  have HZ2 := Lib.hid (blk_other (blk_other HZ.out (p := ⟨w.heap.size, 4, none⟩) (show w.heap.size + 1 ≠ w.heap.size by omega) (.bool true)) (p := ⟨w.heap.size, 5, none⟩) (show w.heap.size + 1 ≠ w.heap.size by omega) (.int .u32 v.toNat))
  have HR := setL_blk (y := set 131 x v) HZ2.out
  have HB2 := (HB.out.setCell (p := ⟨w.heap.size, 4, none⟩) (Nat.le_refl _) (.bool true)).setCell (p := ⟨w.heap.size, 5, none⟩) (Nat.le_refl _) (.int .u32 v.toNat)
  have HBe := setL_below HB2 HB2.size (g := w.heap.size + 1) (Nat.le_succ _) (lv (set 131 x v))
  refine bodyPost_ret (results_cell_row rfl _ _ (w.heap.size + 1) _ _ _ _ rfl HR Tryz.underlying40 rfl (by kernel_rfl)) rfl ?_
  exact ⟨rfl, HBe⟩
/-- The three, as they are made. -/
def msV : Value := .agg #[.int .u8 3, .func (.func 147) #[] #[], .func (.func 148) #[] #[], .int .u8 129, .func (.func 149) #[] #[], .func (.func 150) #[] #[], .int .u8 131, .func (.func 151) #[] #[], .func (.func 152) #[] #[]]
set_option maxRecDepth 100000 in
theorem meanings_any (w : World) : Calls Tryz.prog 145 #[] w fun e w' => e = .returned msV ∧ Below w.heap.size w w' := by
  go_enter Tryz.func145, Tryz.ntmps145
  go_wp2
  refine bodyPost_ret (results_cell_row rfl _ _ w.heap.size _ _ _ _ rfl (World.alloc_heap_new w _) Tryz.underlying238 rfl (by kernel_rfl)) rfl ?_
  exact ⟨rfl, (Below.refl _ _).alloc (Nat.le_refl _) _⟩
/-- Of which type the k-th of the three is, and its functions. -/
def kd (k : Nat) : UInt8 := six.getD k 0
def fS (k : Nat) : FuncId := if k = 0 then 147 else if k = 1 then 149 else 151
def fW (k : Nat) : FuncId := if k = 0 then 148 else if k = 1 then 150 else 152
/-- The k-th of the three. -/
def mV (k : Nat) : List Value := [.int .u8 (kd k).toNat, .func (.func (fS k)) #[] #[], .func (.func (fW k)) #[] #[]]
theorem said_any (k : Nat) (hk : k < 3) (x : Ipc) (w : World) : Calls Tryz.prog (fS k) #[.agg (lv x).toArray] w (SaidQ (kd k) x w) := by
  rcases (show k = 0 ∨ k = 1 ∨ k = 2 by omega) with rfl | rfl | rfl
  · exact said1 x w
  · exact said2 x w
  · exact said3 x w
theorem with_any (k : Nat) (hk : k < 3) (x : Ipc) (v : UInt32) (w : World) : Calls Tryz.prog (fW k) #[.agg (lv x).toArray, .int .u32 v.toNat] w (WithQ (kd k) x v w) := by
  rcases (show k = 0 ∨ k = 1 ∨ k = 2 by omega) with rfl | rfl | rfl
  · exact with1 x v w
  · exact with2 x v w
  · exact with3 x v w
set_option maxRecDepth 100000 in
theorem said_enters (k : Nat) (hk : k < 3) : ∀ args w, (callFunc (fS k) args).run Tryz.prog w = .ok (.enter (fS k) args) w := by
  rcases (show k = 0 ∨ k = 1 ∨ k = 2 by omega) with rfl | rfl | rfl
  all_goals exact fun args w => by kernel_rfl
set_option maxRecDepth 100000 in
theorem with_enters (k : Nat) (hk : k < 3) : ∀ args w, (callFunc (fW k) args).run Tryz.prog w = .ok (.enter (fW k) args) w := by
  rcases (show k = 0 ∨ k = 1 ∨ k = 2 by omega) with rfl | rfl | rfl
  all_goals exact fun args w => by kernel_rfl
set_option maxRecDepth 100000 in
theorem index_ms (k : Nat) (hk : k < 3) (w : World) : (Instr.index 238 msV (.int .i64 (k : Nat))).run Tryz.prog w = .ok (.agg (mV k).toArray) w := by
  rcases (show k = 0 ∨ k = 1 ∨ k = 2 by omega) with rfl | rfl | rfl
  all_goals kernel_rfl
end Go.Proofs.YtgefodpnhifmdaaGreat.Ipc

/- A policy in a block. -/
namespace Go.Proofs.YtgefodpnhifmdaaGreat.Ipp
open Go.RowKit Go.Proofs.YtgefodpnhifmdaaGreat.Oct Go.Proofs.YtgefodpnhifmdaaGreat.Row Go.Proofs.YtgefodpnhifmdaaGreat.Mem Go.Proofs.YtgefodpnhifmdaaGreat.Opt Go.Proofs.YtgefodpnhifmdaaGreat.Ipc

/-- Policy p lies in block g. -/
def PAt (w : World) (g : Nat) (p : Po) : Prop := Blk w g (pv p) 73
theorem PAt.lt {w : World} {g : Nat} {p : Po} (h : PAt w g p) : g < w.heap.size := Blk.lt h
theorem PAt.c {w : World} {g : Nat} {p : Po} (h : PAt w g p) (i : Nat) : w.cell? ⟨g, i, none⟩ = (pv p)[i]? := Blk.at_ h i
theorem PAt.f {w : World} {g : Nat} {p : Po} (h : PAt w g p) (i : Nat) : w.frozen? ⟨g, i, none⟩ = false := Blk.frozen h i
theorem PAt.moves {S : Nat → Prop} {w w' : World} {g : Nat} {p : Po} (h : PAt w g p) (hm : Moves S w w') (hs : ¬ S g) : PAt w' g p := Blk.moves h hm hs
theorem PAt.callee {w w' : World} {g : Nat} {p : Po} (h : PAt w g p) (hb : Below w.heap.size w w') : PAt w' g p := Blk.callee h hb
theorem PAt.below {w w' : World} {g n : Nat} {p : Po} (h : PAt w g p) (hb : Below n w w') (hg : g < n) : PAt w' g p := Blk.below h hb hg
theorem PAt.alloc {w : World} {g : Nat} {p : Po} (h : PAt w g p) (o : Obj) : PAt (w.alloc o) g p := Blk.alloc h o
theorem PAt.drewN {w : World} {g : Nat} {p : Po} (h : PAt w g p) (k : Nat) : PAt (w.drewN k) g p := h
theorem set_moves (w : World) (g i : Nat) (v : Value) : Moves (fun k => k = g) w (w.setCell ⟨g, i, none⟩ v) := ⟨rfl, rfl, rfl, by simp [World.setCell], fun k _ hk => Below.heap_setCell _ _ _ _ hk⟩
theorem sets_moves (g : Nat) : ∀ (vs : List Value) (w : World) (i : Nat), Moves (fun k => k = g) w (w.setCells g i vs)
  | [], w, _ => Moves.refl _ w
  | v :: vs, w, i => (set_moves w g i v).trans (sets_moves g vs _ _) (fun _ _ h => h)
theorem Blk.mid {w : World} {g : Nat} {cs : List Value} {t : TypeId} (h : Blk w g cs t) (o n : Nat) : w.rangeAt g o ((cs.drop o).take n) := fun j v hv => by
  obtain ⟨hj, _⟩ := List.getElem?_eq_some_iff.1 hv
  rw [List.length_take] at hj
  rw [List.getElem?_take_of_lt (by omega), List.getElem?_drop] at hv
  rw [Blk.at_ h, hv]
theorem Blk.there {w : World} {g : Nat} {cs : List Value} {t : TypeId} (h : Blk w g cs t) (o n : Nat) (hn : o + n ≤ cs.length) : w.there g o n := fun j hj => by
  refine ⟨?_, Blk.frozen h _⟩
  rw [Blk.at_ h, List.getElem?_eq_getElem (by omega)]
  rfl
theorem PAt.conf {w : World} {g : Nat} {p : Po} (h : PAt w g p) : w.rangeAt g 6 (cv p.c) := Blk.mid h 6 6
theorem PAt.mine {w : World} {g : Nat} {p : Po} (h : PAt w g p) : w.rangeAt g 12 (lv p.mine) := Blk.mid h 12 6
theorem PAt.peer {w : World} {g : Nat} {p : Po} (h : PAt w g p) : w.rangeAt g 18 (lv p.peer) := Blk.mid h 18 6
theorem PAt.setMine {w : World} {g : Nat} {p : Po} (h : PAt w g p) (x : Ipc) : PAt (w.setCells g 12 (lv x)) g { p with mine := x } :=
  (((((Blk.set h 12 (.bool x.ha)).set 13 (.int .u32 x.addr.toNat)).set 14 (.bool x.h1)).set 15 (.int .u32 x.dns1.toNat)).set 16 (.bool x.h2)).set 17 (.int .u32 x.dns2.toNat)
theorem PAt.setPeer {w : World} {g : Nat} {p : Po} (h : PAt w g p) (x : Ipc) : PAt (w.setCells g 18 (lv x)) g { p with peer := x } :=
  (((((Blk.set h 18 (.bool x.ha)).set 19 (.int .u32 x.addr.toNat)).set 20 (.bool x.h1)).set 21 (.int .u32 x.dns1.toNat)).set 22 (.bool x.h2)).set 23 (.int .u32 x.dns2.toNat)
theorem PAt.setHa {w : World} {g : Nat} {p : Po} (h : PAt w g p) (v : Bool) : PAt (w.setCell ⟨g, 0, none⟩ (.bool v)) g { p with w := { p.w with ha := v } } := Blk.set h 0 (.bool v)
theorem PAt.setAddr {w : World} {g : Nat} {p : Po} (h : PAt w g p) (v : UInt32) : PAt (w.setCell ⟨g, 1, none⟩ (.int .u32 v.toNat)) g { p with w := { p.w with addr := v } } := Blk.set h 1 (.int .u32 v.toNat)
theorem PAt.setH1 {w : World} {g : Nat} {p : Po} (h : PAt w g p) (v : Bool) : PAt (w.setCell ⟨g, 2, none⟩ (.bool v)) g { p with w := { p.w with h1 := v } } := Blk.set h 2 (.bool v)
theorem PAt.setDns1 {w : World} {g : Nat} {p : Po} (h : PAt w g p) (v : UInt32) : PAt (w.setCell ⟨g, 3, none⟩ (.int .u32 v.toNat)) g { p with w := { p.w with dns1 := v } } := Blk.set h 3 (.int .u32 v.toNat)
theorem PAt.setH2 {w : World} {g : Nat} {p : Po} (h : PAt w g p) (v : Bool) : PAt (w.setCell ⟨g, 4, none⟩ (.bool v)) g { p with w := { p.w with h2 := v } } := Blk.set h 4 (.bool v)
theorem PAt.setDns2 {w : World} {g : Nat} {p : Po} (h : PAt w g p) (v : UInt32) : PAt (w.setCell ⟨g, 5, none⟩ (.int .u32 v.toNat)) g { p with w := { p.w with dns2 := v } } := Blk.set h 5 (.int .u32 v.toNat)
theorem PAt.setNaks {w : World} {g : Nat} {p : Po} (h : PAt w g p) (n : Nat) : PAt (w.setCell ⟨g, 24, none⟩ (.int .i64 n)) g { p with naks := n } := Blk.set h 24 (.int .i64 n)
/-- The wishes' cells. -/
theorem PAt.wish {w : World} {g : Nat} {p : Po} (h : PAt w g p) : w.cell? ⟨g, 0, none⟩ = some (Value.bool p.w.ha) ∧ w.cell? ⟨g, 1, none⟩ = some (.int .u32 p.w.addr.toNat) ∧ w.cell? ⟨g, 2, none⟩ = some (Value.bool p.w.h1) ∧ w.cell? ⟨g, 3, none⟩ = some (.int .u32 p.w.dns1.toNat) ∧ w.cell? ⟨g, 4, none⟩ = some (Value.bool p.w.h2) ∧ w.cell? ⟨g, 5, none⟩ = some (.int .u32 p.w.dns2.toNat) :=
  ⟨h.c 0, h.c 1, h.c 2, h.c 3, h.c 4, h.c 5⟩
/-- Any struct's cells. -/
theorem cells6 {w : World} {g : Nat} {x : Ipc} (h : LAt w g x) : w.cell? ⟨g, 0, none⟩ = some (Value.bool x.ha) ∧ w.cell? ⟨g, 1, none⟩ = some (.int .u32 x.addr.toNat) ∧ w.cell? ⟨g, 2, none⟩ = some (Value.bool x.h1) ∧ w.cell? ⟨g, 3, none⟩ = some (.int .u32 x.dns1.toNat) ∧ w.cell? ⟨g, 4, none⟩ = some (Value.bool x.h2) ∧ w.cell? ⟨g, 5, none⟩ = some (.int .u32 x.dns2.toNat) :=
  ⟨h.c 0, h.c 1, h.c 2, h.c 3, h.c 4, h.c 5⟩
/-- An answer that is a struct of six cells in a named result's block. -/
theorem res_ipc {f : Func} {p : Nat} {ty : TypeId} (hf : f.results = #[.cell p ty]) (tmps : Array Value) (W : World) (g : Nat) (x : Ipc) (hp : tmps.getD p undef = .pointer (some ⟨g, 0, none⟩)) (h : LAt W g x) (hu : Tryz.prog.underlying ty = Tryz.prog.underlying 40) (hi : (Tryz.prog.info? ty).map (·.size) = some 6) :
    (results f tmps).run Tryz.prog W = .ok (.agg (lv x).toArray) W := by
  rw [Tryz.underlying40] at hu
  exact results_cell_row hf tmps W g _ _ _ _ hp h hu rfl hi
set_option maxRecDepth 100000 in
theorem ipc_size (x : Ipc) : (Tryz.prog.info? 40).map (·.size) = some (lv x).toArray.size := by
  rw [List.size_toArray]
  kernel_rfl
theorem lv_one (x : Ipc) : (lv x).toArray.all (·.oneCell') = true := by
  refine all_oneCell_toArray fun v hv => ?_
  unfold lv at hv
  simp only [List.mem_cons, List.not_mem_nil, or_false] at hv
  rcases hv with rfl | rfl | rfl | rfl | rfl | rfl <;> rfl
theorem LAt.moves {S : Nat → Prop} {w w' : World} {g : Nat} {x : Ipc} (h : LAt w g x) (hm : Moves S w w') (hs : ¬ S g) : LAt w' g x := Blk.moves h hm hs
theorem lat_row {W : World} {g : Nat} {x : Ipc} (h : LAt W g x) (y : Ipc) : LAt (W.setRow g (lv y).toArray) g y := Blk.setRow h (lv y)
set_option maxRecDepth 100000 in
/-- The end: the struct was laid over the named result's. -/
theorem bet_res {f : Func} {p g0 : Nat} (hf : f.results = #[.cell p 40]) (tmps : Array Value) {W : World} {z : Ipc} (y : Ipc) (h : LAt W g0 z) (hp : tmps.getD p undef = .pointer (some ⟨g0, 0, none⟩)) :
    (results f tmps).run Tryz.prog (W.setRow g0 (lv y).toArray) = .ok (.agg (lv y).toArray) (W.setRow g0 (lv y).toArray) := res_ipc hf tmps _ g0 y hp (lat_row h y) rfl (by kernel_rfl)
/-- What a function of the map says: a struct. -/
def BetQ (y : Ipc) (w : World) (e : Ending) (w' : World) : Prop := e = .returned (.agg (lv y).toArray) ∧ Below w.heap.size w w'
theorem bet_q {w W : World} {g0 : Nat} (y : Ipc) (hB : Below w.heap.size w W) (hg : w.heap.size ≤ g0) : BetQ y w (.returned (.agg (lv y).toArray)) (W.setRow g0 (lv y).toArray) :=
  ⟨rfl, hB.trans ((moves_row W g0 _).below hB.size fun k e => by rw [e]; exact hg)⟩
theorem u32_ne0 (v : UInt32) : ((v.toNat : Int) != 0) = (v != 0) := by
  rw [Bool.eq_iff_iff, bne_iff_ne, bne_iff_ne]
  exact ⟨fun h e => h (by rw [e]; rfl), fun h e => h (UInt32.toNat_inj.1 (by show v.toNat = 0; omega))⟩
theorem u32_eq0 (v : UInt32) : ((v.toNat : Int) == 0) = (v == 0) := by
  rw [Bool.eq_iff_iff, beq_iff_eq, beq_iff_eq]
  exact ⟨fun h => UInt32.toNat_inj.1 (by show v.toNat = 0; omega), fun e => by rw [e]; rfl⟩
end Go.Proofs.YtgefodpnhifmdaaGreat.Ipp

/- Contracts: cmp.Or at numbers, the functions that better an option. -/
namespace Go.Proofs.YtgefodpnhifmdaaGreat.Ipp
open Go.RowKit Go.Proofs.YtgefodpnhifmdaaGreat.Oct Go.Proofs.YtgefodpnhifmdaaGreat.Row Go.Proofs.YtgefodpnhifmdaaGreat.Mem Go.Proofs.YtgefodpnhifmdaaGreat.Opt Go.Proofs.YtgefodpnhifmdaaGreat.Ipc

theorem cell_alloc {w : World} {p : Addr} {v : Value} (h : w.cell? p = some v) (o : Obj) : (w.alloc o).cell? p = some v := (((Below.refl _ w).alloc (Nat.le_refl _) o).cell (World.block_lt_of_cell? _ _ h)).trans h
/-- Two numbers in a block. -/
def Two32 (w : World) (g : Nat) (a b : UInt32) : Prop := Blk w g [.int .u32 a.toNat, .int .u32 b.toNat] 22
set_option maxHeartbeats 1000000 in
set_option maxRecDepth 100000 in
theorem or_any (a b : UInt32) (g : Nat) (w : World) (h : Two32 w g a b) : Calls Tryz.prog 136 #[.slice (some ⟨g, 0, none⟩) 2 2] w fun e w' => e = .returned (.int .u32 (or32 a b).toNat) ∧ w' = w := by
  have c0 : w.cell? ⟨g, 0, none⟩ = some (.int .u32 a.toNat) := Blk.at_ h 0
  have c1 : w.cell? ⟨g, 1, none⟩ = some (.int .u32 b.toNat) := Blk.at_ h 1
  have ha := u32_ne0 a
  have hb := u32_ne0 b
  clear h
  go_enter Tryz.func136, Tryz.ntmps136
  go_wp2
  go_loopw [8] (fun i wr => ∃ k : Nat, k ≤ 2 ∧ i = .int .i64 k ∧ Hid ((1 ≤ k → a = 0) ∧ (k = 2 → b = 0)) ∧ w = wr) (fun i _ => 2 - (intOf i).toNat)
  case atStart => exact ⟨0, Nat.zero_le _, rfl, ⟨fun h => absurd h (by omega), fun h => absurd h (by omega)⟩, rfl⟩
  case round =>
    obtain ⟨k, hk, rfl, HT, rfl⟩ := hrel
    by_cases h0 : k = 0
    · subst h0
      clear hk
      cases e : (a != 0)
      · rw [e] at ha
        have HA : Hid (a = 0) := bne0 e
        clear e
        go_wp2
        go_roundw
        case rel => exact ⟨1, by omega, by go_num, ⟨fun _ => HA.out, fun h => absurd h (by omega)⟩, by trivial⟩
        case measure => simp [intOf]
      · rw [e] at ha
        have HA : Hid (or32 a b = a) := if_neg (bne_iff_ne.1 e)
        clear e
        go_wp2
        go_ret
        exact ⟨by rw [HA.out] <;> rfl, rfl⟩
    · by_cases h1 : k = 1
      · subst h1
        have HA : Hid (or32 a b = b) := if_pos (HT.out.1 (Nat.le_refl _))
        clear hk h0
        cases e : (b != 0)
        · rw [e] at hb
          have HA : Hid (b = 0) := bne0 e
          clear e
          go_wp2
          go_roundw
          case rel => exact ⟨2, by omega, by go_num, ⟨fun _ => HT.out.1 (Nat.le_refl _), fun _ => HA.out⟩, by trivial⟩
          case measure => simp [intOf]
        · rw [e] at hb
          clear e
          go_wp2
          go_ret
          exact ⟨by rw [HA.out] <;> rfl, rfl⟩
      · obtain rfl : k = 2 := by omega
        have HA : Hid (or32 a b = 0) := by
          show _ = _
          rw [show or32 a b = b from if_pos (HT.out.1 (by omega)), HT.out.2 rfl]
        clear hk h0 h1
        go_wp2
        go_ret
        exact ⟨by rw [HA.out] <;> rfl, rfl⟩
set_option maxHeartbeats 2000000 in
set_option maxRecDepth 100000 in
theorem bet_addr (g : Nat) (p : Po) (x : Ipc) (w : World) (h : PAt w g p) : Calls Tryz.prog 129 #[.pointer (some ⟨g, 0, none⟩), .agg (lv x).toArray] w (BetQ (bet p 3 x) w) := by
  show Calls Tryz.prog 129 #[.pointer (some ⟨g, 0, none⟩), .agg #[Value.bool x.ha, .int .u32 x.addr.toNat, .bool x.h1, .int .u32 x.dns1.toNat, .bool x.h2, .int .u32 x.dns2.toNat]] w (BetQ ⟨or32 p.c.peer x.addr != 0, or32 p.c.peer x.addr, false, 0, false, 0⟩ w)
  obtain ⟨W, hW, HW⟩ := boxL2 w x
  have C1 := Lib.hid (or_any p.c.peer x.addr)
  obtain ⟨v, hv⟩ : ∃ v, or32 p.c.peer x.addr = v := ⟨_, rfl⟩
  rw [hv] at C1 ⊢
  clear hv
  have hn := u32_ne0 v
  have HP : Hid (PAt W g p) := h.callee HW.out.2.2
  have HB := Lib.hid HW.out.2.2
  have HZ := Lib.hid HW.out.2.1
  have p7 : W.drew.cell? ⟨g, 7, none⟩ = some (.int .u32 p.c.peer.toNat) := HP.out.c 7
  have x1 : W.drew.cell? ⟨w.heap.size, 1, none⟩ = some (.int .u32 x.addr.toNat) := HW.out.1.c 1
  have HA : Hid (∀ U : World, Two32 (U.alloc (.cells #[.int .u32 p.c.peer.toNat, .int .u32 x.addr.toNat] 22)).drew U.heap.size p.c.peer x.addr) := fun U => blk_new U [.int .u32 p.c.peer.toNat, .int .u32 x.addr.toNat] _
  clear h HW
  go_enter Tryz.func129, Tryz.ntmps129
  go_wp2
  clear hW
  go_region_held3 (fun w' => w'.cell? ⟨g, 7, none⟩ = some (.int .u32 p.c.peer.toNat) ∧ w'.cell? ⟨w.heap.size, 1, none⟩ = some (.int .u32 x.addr.toNat))
    (first | assumption | (refine ⟨?_, ?_⟩ <;> assumption) | (go_split_ands; refine ⟨?_, ?_⟩ <;> assumption) | (go_split_ands; refine ⟨?_, ?_⟩ <;> (apply cell_alloc; assumption)))
    (first
      | (go_at_call 136; (refine (C1.out _ _ (HA.out _)).mono ?_; rintro e w6 ⟨rfl, rfl⟩; have HB6 := Lib.hid (HB.out.alloc HB.out.size (.cells #[.int .u32 p.c.peer.toNat, .int .u32 x.addr.toNat] 22)).drew; have HZ6 : Hid (LAt (W.alloc (.cells #[.int .u32 p.c.peer.toNat, .int .u32 x.addr.toNat] 22)).drew (w.heap.size + 1) lz) := Blk.drew (HZ.out.alloc (.cells #[.int .u32 p.c.peer.toNat, .int .u32 x.addr.toNat] 22))))
      | fail)
  generalize (W.alloc (.cells #[.int .u32 p.c.peer.toNat, .int .u32 x.addr.toNat] 22)).drew = U at *
  go_wp2_with (first
    | (refine wpList_store_row rfl 40 _ _ rfl (w.heap.size + 1) (lv ⟨v != 0, v, false, 0, false, 0⟩).toArray rfl rfl 40 _ HZ6.out (ipc_size _) rfl (lv_one _) ?_))
  (try simp only [Exit.inBlock, Exit.then])
  refine bodyPost_ret (bet_res rfl _ _ HZ6.out rfl) rfl ?_
  exact bet_q _ HB6.out (Nat.le_succ _)
set_option maxHeartbeats 2000000 in
set_option maxRecDepth 100000 in
theorem bet_dns1 (g : Nat) (p : Po) (x : Ipc) (w : World) (h : PAt w g p) : Calls Tryz.prog 134 #[.pointer (some ⟨g, 0, none⟩), .agg (lv x).toArray] w (BetQ (bet p 129 x) w) := by
  show Calls Tryz.prog 134 #[.pointer (some ⟨g, 0, none⟩), .agg #[Value.bool x.ha, .int .u32 x.addr.toNat, .bool x.h1, .int .u32 x.dns1.toNat, .bool x.h2, .int .u32 x.dns2.toNat]] w (BetQ ⟨false, 0, p.c.dns1 != 0, p.c.dns1, false, 0⟩ w)
  obtain ⟨W, hW, HW⟩ := boxL2 w x
  have HP : Hid (PAt W g p) := h.callee HW.out.2.2
  have HB := Lib.hid HW.out.2.2
  have HZ : Hid (LAt W (w.heap.size + 1) lz) := HW.out.2.1
  have HS := Lib.hid HW.out.2.2.size
  have hgl : ¬ g = w.heap.size + 1 := by have := h.lt; omega
  have hgl2 : ¬ w.heap.size + 1 = g := fun e => hgl e.symm
  obtain ⟨v, hv⟩ : ∃ v, p.c.dns1 = v := ⟨_, rfl⟩
  have hn := u32_ne0 v
  have pc : W.cell? ⟨g, 8, none⟩ = some (.int .u32 v.toNat) := by rw [← hv]; exact HP.out.c 8
  rw [hv]
  obtain ⟨z0, z1, z2, z3, z4, z5⟩ := cells6 HW.out.2.1
  have f0 := HW.out.2.1.f 0
  have f1 := HW.out.2.1.f 1
  have f2 := HW.out.2.1.f 2
  have f3 := HW.out.2.1.f 3
  have f4 := HW.out.2.1.f 4
  have f5 := HW.out.2.1.f 5
  clear h HW hv
  go_enter Tryz.func134, Tryz.ntmps134
  go_wp2
  clear hW
  go_region
  go_wp2
  (try simp only [Exit.inBlock, Exit.then])
  have HF := Lib.hid ((((((Blk.set HZ.out 0 (.bool false)).set 1 (.int .u32 0)).set 2 (.bool (v != 0))).set 3 (.int .u32 v.toNat)).set 4 (.bool false)).set 5 (.int .u32 0))
  have HE := Lib.hid ((((((HB.out.setCell (p := ⟨w.heap.size + 1, 0, none⟩) (Nat.le_succ _) (.bool false)).setCell (p := ⟨w.heap.size + 1, 1, none⟩) (Nat.le_succ _) (.int .u32 0)).setCell (p := ⟨w.heap.size + 1, 2, none⟩) (Nat.le_succ _) (.bool (v != 0))).setCell (p := ⟨w.heap.size + 1, 3, none⟩) (Nat.le_succ _) (.int .u32 v.toNat)).setCell (p := ⟨w.heap.size + 1, 4, none⟩) (Nat.le_succ _) (.bool false)).setCell (p := ⟨w.heap.size + 1, 5, none⟩) (Nat.le_succ _) (.int .u32 0))
  refine bodyPost_ret (results_cell_row rfl _ _ (w.heap.size + 1) _ _ _ _ rfl (Blk.drew HF.out) Tryz.underlying40 rfl (by kernel_rfl)) rfl ?_
  exact ⟨rfl, HE.out.drew⟩
set_option maxHeartbeats 2000000 in
set_option maxRecDepth 100000 in
theorem bet_dns2 (g : Nat) (p : Po) (x : Ipc) (w : World) (h : PAt w g p) : Calls Tryz.prog 138 #[.pointer (some ⟨g, 0, none⟩), .agg (lv x).toArray] w (BetQ (bet p 131 x) w) := by
  show Calls Tryz.prog 138 #[.pointer (some ⟨g, 0, none⟩), .agg #[Value.bool x.ha, .int .u32 x.addr.toNat, .bool x.h1, .int .u32 x.dns1.toNat, .bool x.h2, .int .u32 x.dns2.toNat]] w (BetQ ⟨false, 0, false, 0, p.c.dns2 != 0, p.c.dns2⟩ w)
  obtain ⟨W, hW, HW⟩ := boxL2 w x
  have HP : Hid (PAt W g p) := h.callee HW.out.2.2
  have HB := Lib.hid HW.out.2.2
  have HZ : Hid (LAt W (w.heap.size + 1) lz) := HW.out.2.1
  have HS := Lib.hid HW.out.2.2.size
  have hgl : ¬ g = w.heap.size + 1 := by have := h.lt; omega
  have hgl2 : ¬ w.heap.size + 1 = g := fun e => hgl e.symm
  obtain ⟨v, hv⟩ : ∃ v, p.c.dns2 = v := ⟨_, rfl⟩
  have hn := u32_ne0 v
  have pc : W.cell? ⟨g, 9, none⟩ = some (.int .u32 v.toNat) := by rw [← hv]; exact HP.out.c 9
  rw [hv]
  obtain ⟨z0, z1, z2, z3, z4, z5⟩ := cells6 HW.out.2.1
  have f0 := HW.out.2.1.f 0
  have f1 := HW.out.2.1.f 1
  have f2 := HW.out.2.1.f 2
  have f3 := HW.out.2.1.f 3
  have f4 := HW.out.2.1.f 4
  have f5 := HW.out.2.1.f 5
  clear h HW hv
  go_enter Tryz.func138, Tryz.ntmps138
  go_wp2
  clear hW
  go_region
  go_wp2
  (try simp only [Exit.inBlock, Exit.then])
  have HF := Lib.hid ((((((Blk.set HZ.out 0 (.bool false)).set 1 (.int .u32 0)).set 2 (.bool false)).set 3 (.int .u32 0)).set 4 (.bool (v != 0))).set 5 (.int .u32 v.toNat))
  have HE := Lib.hid ((((((HB.out.setCell (p := ⟨w.heap.size + 1, 0, none⟩) (Nat.le_succ _) (.bool false)).setCell (p := ⟨w.heap.size + 1, 1, none⟩) (Nat.le_succ _) (.int .u32 0)).setCell (p := ⟨w.heap.size + 1, 2, none⟩) (Nat.le_succ _) (.bool false)).setCell (p := ⟨w.heap.size + 1, 3, none⟩) (Nat.le_succ _) (.int .u32 0)).setCell (p := ⟨w.heap.size + 1, 4, none⟩) (Nat.le_succ _) (.bool (v != 0))).setCell (p := ⟨w.heap.size + 1, 5, none⟩) (Nat.le_succ _) (.int .u32 v.toNat))
  refine bodyPost_ret (results_cell_row rfl _ _ (w.heap.size + 1) _ _ _ _ rfl (Blk.drew HF.out) Tryz.underlying40 rfl (by kernel_rfl)) rfl ?_
  exact ⟨rfl, HE.out.drew⟩
end Go.Proofs.YtgefodpnhifmdaaGreat.Ipp

/- The map of what is said of each option: how it is made, looked up. -/
namespace Go.Proofs.YtgefodpnhifmdaaGreat.Ipp
open Go.RowKit Go.Proofs.YtgefodpnhifmdaaGreat.Oct Go.Proofs.YtgefodpnhifmdaaGreat.Row Go.Proofs.YtgefodpnhifmdaaGreat.Mem Go.Proofs.YtgefodpnhifmdaaGreat.Opt Go.Proofs.YtgefodpnhifmdaaGreat.Ipc Go.ChangeMaps

def mB (t : UInt8) : Nat := if t = 3 then 129 else if t = 129 then 134 else 138
def mN (t : UInt8) : Nat := if t = 3 then 132 else if t = 129 then 135 else 139
def mX (t : UInt8) : Nat := if t = 3 then 133 else if t = 129 then 137 else 140
theorem bet_any {t : UInt8} (ht : known t = true) (g : Nat) (p : Po) (x : Ipc) (w : World) (h : PAt w g p) : Calls Tryz.prog (mB t) #[.pointer (some ⟨g, 0, none⟩), .agg (lv x).toArray] w (BetQ (bet p t x) w) := by
  rcases known_cases ht with e | e | e <;> subst e
  · exact bet_addr g p x w h
  · exact bet_dns1 g p x w h
  · exact bet_dns2 g p x w h
set_option maxRecDepth 100000 in
theorem mB_enters {t : UInt8} (ht : known t = true) : ∀ args w, (callFunc (mB t) args).run Tryz.prog w = .ok (.enter (mB t) args) w := by
  rcases known_cases ht with e | e | e <;> subst e
  · exact enters_of Tryz.func129 (by kernel_rfl) rfl
  · exact enters_of Tryz.func134 (by kernel_rfl) rfl
  · exact enters_of Tryz.func138 (by kernel_rfl) rfl
set_option maxRecDepth 100000 in
theorem mN_enters {t : UInt8} (ht : known t = true) : ∀ args w, (callFunc (mN t) args).run Tryz.prog w = .ok (.enter (mN t) args) w := by
  rcases known_cases ht with e | e | e <;> subst e
  · exact enters_of Tryz.func132 (by kernel_rfl) rfl
  · exact enters_of Tryz.func135 (by kernel_rfl) rfl
  · exact enters_of Tryz.func139 (by kernel_rfl) rfl
set_option maxRecDepth 100000 in
theorem mX_enters {t : UInt8} (ht : known t = true) : ∀ args w, (callFunc (mX t) args).run Tryz.prog w = .ok (.enter (mX t) args) w := by
  rcases known_cases ht with e | e | e <;> subst e
  · exact enters_of Tryz.func133 (by kernel_rfl) rfl
  · exact enters_of Tryz.func137 (by kernel_rfl) rfl
  · exact enters_of Tryz.func140 (by kernel_rfl) rfl
def trip (t : UInt8) : Value := .agg #[.func (.func (mB t)) #[] #[], .func (.func (mN t)) #[] #[], .func (.func (mX t)) #[] #[]]
/-- The map's entries. -/
def sents : Array MapEntry := #[⟨.int .u8 3, trip 3, 0⟩, ⟨.int .u8 129, trip 129, 1⟩, ⟨.int .u8 131, trip 131, 2⟩]
theorem find_no (n : Int) : ∀ (es : List MapEntry) (i : Nat), (∀ e ∈ es, ∃ k, e.key = .int .u8 k ∧ (n == k) = false) → Instr.findNow (.int .u8) (.int .u8 n) es i = some none
  | [], _, _ => rfl
  | e :: es, i, h => by
    obtain ⟨k, hk, hn⟩ := h e (by simp)
    unfold Instr.findNow
    rw [hk]
    simp only [Instr.sameNow, if_true, hn]
    exact find_no n es (i + 1) fun x hx => h x (by simp [hx])
theorem run_key (w : World) (em : Bool) (n : Int) : (Instr.checkKey em 10000 5 (.int .u8 n)).run Tryz.prog w = .ok () w := by
  have h := run_underlying (w := w) Tryz.underlying5
  unfold Instr.checkKey
  simp [h, Result.andThen]
theorem push_set {α : Type} (a : Array α) (x y : α) : (a.push x).setIfInBounds a.size y = a.push y := by
  apply Array.ext_getElem?
  intro i
  rw [Array.getElem?_setIfInBounds, Array.getElem?_push, Array.getElem?_push, Array.size_push]
  by_cases hi : a.size = i
  · subst hi
    rw [if_pos rfl, if_pos (Nat.lt_succ_self _), if_pos rfl]
  · rw [if_neg hi, if_neg (Ne.symm hi), if_neg (Ne.symm hi)]
theorem find_yes (n : Int) (v : Value) : ∀ (es : List MapEntry) (i : Nat), (∀ e ∈ es, ∃ k, e.key = .int .u8 k) → (∃ e ∈ es, e.key = .int .u8 n) → (∀ e ∈ es, e.key = .int .u8 n → e.val = v) → ∃ j, Instr.findNow (.int .u8) (.int .u8 n) es i = some (some (j, v))
  | [], _, _, h, _ => by obtain ⟨e, he, _⟩ := h; cases he
  | e :: es, i, hk, hx, hv => by
    obtain ⟨k, ek⟩ := hk e (by simp)
    unfold Instr.findNow
    rw [ek]
    simp only [Instr.sameNow, if_true]
    by_cases hn : n = k
    · subst hn
      simp only [beq_self_eq_true]
      exact ⟨i, by rw [hv e (by simp) ek]⟩
    · rw [show (n == k) = false from beq_eq_false_iff_ne.2 hn]
      refine find_yes n v es (i + 1) (fun x hx => hk x (by simp [hx])) ?_ (fun x hx => hv x (by simp [hx]))
      obtain ⟨y, hy, ey⟩ := hx
      rcases List.mem_cons.1 hy with rfl | hy
      · rw [ek] at ey; cases ey; exact absurd rfl hn
      · exact ⟨y, hy, ey⟩
theorem u8_key {t u : UInt8} (h : Value.int .u8 (t.toNat : Nat) = .int .u8 (u.toNat : Nat)) : t = u := by
  simp only [Value.int.injEq, true_and] at h
  exact UInt8.toNat_inj.1 (by omega)
/-- The map lies in block m. -/
def Sy (W : World) (m : Nat) : Prop := W.heap[m]? = some (.map sents 3)
theorem Sy.lt {W : World} {m : Nat} (h : Sy W m) : m < W.heap.size := (Array.getElem?_eq_some_iff.1 h).1
theorem Sy.below {W W' : World} {m n : Nat} (h : Sy W m) (hb : Below n W W') (hm : m < n) : Sy W' m := (hb.block m hm).trans h
theorem Sy.callee {W W' : World} {m : Nat} (h : Sy W m) (hb : Below W.heap.size W W') : Sy W' m := h.below hb h.lt
theorem Sy.alloc {W : World} {m : Nat} (h : Sy W m) (o : Obj) : Sy (W.alloc o) m := (Below.heap_alloc W o m h.lt).trans h
theorem Sy.moves {S : Nat → Prop} {W W' : World} {m : Nat} (h : Sy W m) (hm : Moves S W W') (hs : ¬ S m) : Sy W' m := (hm.block m h.lt hs).trans h
theorem sy_blk {W : World} {m g : Nat} {cs : List Value} {t : TypeId} (h : Sy W m) (h2 : Blk W g cs t) : m ≠ g := by
  rintro rfl
  have h1 : W.heap[m]? = _ := h
  have h3 : W.heap[m]? = _ := h2
  rw [h1] at h3
  cases h3
theorem run_lay3 {w W : World} {m c : Nat} {es : Array MapEntry} (n : Int) (v : Value) (h : W = w.alloc (.map es c)) (hm : m = w.heap.size) (hn : ∀ e ∈ es.toList, ∃ k, e.key = .int .u8 k ∧ (n == k) = false) :
    ∃ W', (Instr.mapUpdate 211 (.map (some m)) (.int .u8 n) v).run Tryz.prog W = .ok () W' ∧ W' = w.alloc (.map (es.push ⟨.int .u8 n, v, c⟩) (c + 1)) := by
  subst h hm
  refine ⟨_, ?_, rfl⟩
  have hb := (MapKept.heap_alloc w (.map es c)).1
  have h1 := run_underlying (w := w.alloc (.map es c)) Tryz.underlying5
  have h2 := run_underlying (w := w.alloc (.map es c)) Tryz.underlying211
  have h3 := run_key (w.alloc (.map es c)) false n
  have h4 := MapKept.run_setObj_map (P := Tryz.prog) (.map (es.push ⟨.int .u8 n, v, c⟩) (c + 1)) hb
  have e : { w.alloc (.map es c) with heap := (w.alloc (.map es c)).heap.setIfInBounds w.heap.size (.map (es.push ⟨.int .u8 n, v, c⟩) (c + 1)) } = w.alloc (.map (es.push ⟨.int .u8 n, v, c⟩) (c + 1)) :=
    congrArg (fun h : Array Obj => { w with heap := h }) (push_set w.heap (.map es c) (.map (es.push ⟨.int .u8 n, v, c⟩) (c + 1)))
  rw [e] at h4
  simp [Instr.mapUpdate, h2, MapKept.run_getObj_map hb, h3, Instr.findKey, h1, find_no n es.toList 0 hn, h4, Result.andThen]
set_option maxHeartbeats 2000000 in
set_option maxRecDepth 100000 in
theorem sayings_any (w : World) : Calls Tryz.prog 123 #[] w fun e w' => ∃ m, e = .returned (.map (some m)) ∧ w.heap.size ≤ m ∧ Sy w' m ∧ Below w.heap.size w w' := by
  have hmm := @run_makeMap Tryz.prog
  obtain ⟨W1, h1, e1⟩ := run_lay3 (w := w) (c := 0) (es := #[]) 3 (trip 3) rfl rfl (by intro e he; simp at he)
  obtain ⟨W2, h2, e2⟩ := run_lay3 (w := w) 129 (trip 129) e1 rfl (by intro e he; simp at he; subst he; exact ⟨3, rfl, rfl⟩)
  obtain ⟨W3, h3, e3⟩ := run_lay3 (w := w) 131 (trip 131) e2 rfl (by intro e he; simp at he; rcases he with rfl | rfl; exact ⟨3, rfl, rfl⟩; exact ⟨129, rfl, rfl⟩)
  have H : Hid (Sy W3 w.heap.size ∧ Below w.heap.size w W3) := by
    subst e3
    exact ⟨(MapKept.heap_alloc w _).1, (Below.refl _ _).alloc (Nat.le_refl _) _⟩
  clear e1 e2 e3
  simp only [trip, mB, mN, mX] at h1 h2 h3
  simp only [if_true, if_false, show ¬ (129 : UInt8) = 3 by decide, show ¬ (131 : UInt8) = 3 by decide, show ¬ (131 : UInt8) = 129 by decide] at h1 h2 h3
  go_enter Tryz.func123, Tryz.ntmps123
  go_wp2
  go_ret
  exact ⟨_, rfl, Nat.le_refl _, H.out⟩

/-! ### looking up -/
theorem sents_mem {e : MapEntry} (h : e ∈ sents.toList) : ∃ t, known t = true ∧ e.key = .int .u8 (t.toNat : Nat) ∧ e.val = trip t := by
  simp only [sents, List.mem_cons, List.not_mem_nil, or_false] at h
  rcases h with rfl | rfl | rfl
  · exact ⟨3, rfl, rfl, rfl⟩
  · exact ⟨129, rfl, rfl, rfl⟩
  · exact ⟨131, rfl, rfl, rfl⟩
theorem mem_sents {t : UInt8} (h : known t = true) : ∃ e ∈ sents.toList, e.key = .int .u8 (t.toNat : Nat) := by
  rcases known_cases h with e | e | e <;> subst e
  · exact ⟨⟨.int .u8 3, trip 3, 0⟩, by simp [sents], rfl⟩
  · exact ⟨⟨.int .u8 129, trip 129, 1⟩, by simp [sents], rfl⟩
  · exact ⟨⟨.int .u8 131, trip 131, 2⟩, by simp [sents], rfl⟩
theorem say_look {t : UInt8} (ht : known t = true) {W : World} {m : Nat} (h : Sy W m) :
    (Instr.lookup 211 (.map (some m)) (.int .u8 t.toNat) false).run Tryz.prog W = .ok (trip t) W := by
  have h1 := run_underlying (w := W) Tryz.underlying5
  have h2 := run_underlying (w := W) Tryz.underlying211
  have h3 := run_key W sents.isEmpty t.toNat
  obtain ⟨j, hj⟩ := find_yes t.toNat (trip t) sents.toList 0 (fun e he => by obtain ⟨u, _, hk, _⟩ := sents_mem he; exact ⟨_, hk⟩) (mem_sents ht) (fun e he hk => by
    obtain ⟨u, _, hk', hv⟩ := sents_mem he
    rw [hv, u8_key (hk.symm.trans hk')])
  have hb : W.heap[m]? = some (.map sents 3) := h
  simp [Instr.lookup, h2, MapKept.run_getObj_map hb, h3, Instr.findKey, h1, hj, Result.andThen]
set_option maxRecDepth 100000 in
theorem zeroS (w : World) : (zeroValue 217).run Tryz.prog w = .ok (.agg #[.nilFunc, .nilFunc, .nilFunc]) w := by kernel_rfl
theorem say_none {t : UInt8} (ht : known t = false) {W : World} {m : Nat} (h : Sy W m) :
    (Instr.lookup 211 (.map (some m)) (.int .u8 t.toNat) false).run Tryz.prog W = .ok (.agg #[.nilFunc, .nilFunc, .nilFunc]) W := by
  have h1 := run_underlying (w := W) Tryz.underlying5
  have h2 := run_underlying (w := W) Tryz.underlying211
  have h3 := run_key W sents.isEmpty t.toNat
  have hj := find_no t.toNat sents.toList 0 (fun e he => by
    obtain ⟨u, hu, hk, _⟩ := sents_mem he
    refine ⟨_, hk, ?_⟩
    rw [beq_eq_false_iff_ne]
    intro e
    have : t = u := UInt8.toNat_inj.1 (by omega)
    rw [this, hu] at ht
    cases ht)
  have hb : W.heap[m]? = some (.map sents 3) := h
  simp [Instr.lookup, h2, MapKept.run_getObj_map hb, h3, Instr.findKey, h1, hj, zeroS, Result.andThen]
end Go.Proofs.YtgefodpnhifmdaaGreat.Ipp
