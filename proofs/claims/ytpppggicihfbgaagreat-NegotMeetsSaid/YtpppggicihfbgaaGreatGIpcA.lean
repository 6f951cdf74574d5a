/- Put together: IpcA, IppMem, IppA, IppD. -/
import Derived.Test.YtpppggicihfbgaaGreatGOpts
import Derived.Test.YtpppggicihfbgaaGreatGHasEx
import Derived.Test.YtpppggicihfbgaaGreatGConvNew
import Derived.Deep.RegionHeld3
import Derived.RegionTactic
import Derived.BigQuiet
import Derived.Laws.EntriesVeiled
import Derived.Deep.MidRow
import Derived.Laws.Rows
import Derived.Laws.Tables
import Derived.Deep.QuietTactic
import Derived.Maps.RangeRun
import Derived.Maps.Keyed
import Derived.Carry
import Derived.Shelf.Abstract
import Derived.KernelRfl

/- The struct in a block; contracts of ipcpopt's meanings and of their six functions. -/
namespace Go.Proofs.YtpppggicihfbgaaGreat.Ipc
open Go.RowKit Go.Proofs.YtpppggicihfbgaaGreat.Oct Go.Proofs.YtpppggicihfbgaaGreat.Row Go.Proofs.YtpppggicihfbgaaGreat.Mem Go.Proofs.YtpppggicihfbgaaGreat.Opt

def LAt (W : World) (g : Nat) (x : Ipc) : Prop := Blk W g (lv x) 97
theorem LAt.callee {W W' : World} {g : Nat} {x : Ipc} (h : LAt W g x) (hb : Below W.heap.size W W') : LAt W' g x := Blk.callee h hb
theorem LAt.below {W W' : World} {g n : Nat} {x : Ipc} (h : LAt W g x) (hb : Below n W W') (hg : g < n) : LAt W' g x := Blk.below h hb hg
theorem LAt.alloc {W : World} {g : Nat} {x : Ipc} (h : LAt W g x) (o : Obj) : LAt (W.alloc o) g x := Blk.alloc h o
theorem LAt.lt {W : World} {g : Nat} {x : Ipc} (h : LAt W g x) : g < W.heap.size := Blk.lt h
theorem lat_new (W : World) (x : Ipc) : LAt (W.alloc (.cells (lv x).toArray 97)) W.heap.size x := blk_new W (lv x) _
theorem LAt.c {W : World} {g : Nat} {x : Ipc} (h : LAt W g x) (i : Nat) : W.cell? ⟨g, i, none⟩ = (lv x)[i]? := Blk.at_ h i
theorem LAt.f {W : World} {g : Nat} {x : Ipc} (h : LAt W g x) (i : Nat) : W.frozen? ⟨g, i, none⟩ = false := Blk.frozen h i
theorem boxL (w : World) (x : Ipc) : ∃ W, w.alloc (.cells #[Value.bool x.ha, .int .u32 x.addr.toNat, .bool x.h1, .int .u32 x.dns1.toNat, .bool x.h2, .int .u32 x.dns2.toNat] 97) = W ∧ Hid (LAt W w.heap.size x ∧ Below w.heap.size w W ∧ W.heap.size = w.heap.size + 1) :=
  ⟨_, rfl, lat_new w x, (Below.refl w.heap.size w).alloc (Nat.le_refl _) _, by simp⟩
def setL (W : World) (g : Nat) (c : List Value) : World :=
  (((((W.setCell ⟨g, 0, none⟩ (c.getD 0 undef)).setCell ⟨g, 1, none⟩ (c.getD 1 undef)).setCell ⟨g, 2, none⟩ (c.getD 2 undef)).setCell ⟨g, 3, none⟩ (c.getD 3 undef)).setCell ⟨g, 4, none⟩ (c.getD 4 undef)).setCell ⟨g, 5, none⟩ (c.getD 5 undef)
theorem setL_blk {W : World} {g : Nat} {x y : Ipc} (h : LAt W g x) : LAt (setL W g (lv y)) g y :=
  (((((Blk.set h 0 (.bool y.ha)).set 1 (.int .u32 y.addr.toNat)).set 2 (.bool y.h1)).set 3 (.int .u32 y.dns1.toNat)).set 4 (.bool y.h2)).set 5 (.int .u32 y.dns2.toNat)
theorem setL_moves (W : World) (g : Nat) (c : List Value) : Moves (fun k => k = g) W (setL W g c) :=
  (((((((Moves.refl (fun k => k = g) W).setCell ⟨g, 0, none⟩ (fun _ => rfl) _).setCell ⟨g, 1, none⟩ (fun _ => rfl) _).setCell ⟨g, 2, none⟩ (fun _ => rfl) _).setCell ⟨g, 3, none⟩ (fun _ => rfl) _).setCell ⟨g, 4, none⟩ (fun _ => rfl) _).setCell ⟨g, 5, none⟩ (fun _ => rfl) _)
theorem setL_below {W w : World} {g n : Nat} (h : Below n w W) (hn : n ≤ W.heap.size) (hg : n ≤ g) (c : List Value) : Below n w (setL W g c) :=
  h.trans ((setL_moves W g c).below hn (fun k e => by subst e; exact hg))

def SaidQ (t : UInt8) (x : Ipc) (w : World) (e : Ending) (w' : World) : Prop := e = .returned (.tuple #[.int .u32 (adr t x).toNat, .bool (has t x)]) ∧ Below w.heap.size w w'
set_option maxRecDepth 100000 in
theorem said1 (x : Ipc) (w : World) : Calls Tryz.prog 244 #[.agg #[Value.bool x.ha, .int .u32 x.addr.toNat, .bool x.h1, .int .u32 x.dns1.toNat, .bool x.h2, .int .u32 x.dns2.toNat]] w (SaidQ 3 x w) := by
  show Calls Tryz.prog 244 #[.agg #[Value.bool x.ha, .int .u32 x.addr.toNat, .bool x.h1, .int .u32 x.dns1.toNat, .bool x.h2, .int .u32 x.dns2.toNat]] w fun e w' => e = .returned (.tuple #[.int .u32 x.addr.toNat, .bool x.ha]) ∧ Below w.heap.size w w'
  obtain ⟨W, hW, HW⟩ := boxL w x
  have HB := Lib.hid HW.out.2.1
  have c1 : W.cell? ⟨w.heap.size, 1, none⟩ = some (.int .u32 x.addr.toNat) := HW.out.1.c 1
  have c2 : W.cell? ⟨w.heap.size, 0, none⟩ = some (.bool x.ha) := HW.out.1.c 0
  clear HW
  go_enter Tryz.func244, Tryz.ntmps244
  go_wp2
  clear hW
  go_quiet (fail)
  go_wp2
  go_ret2
  exact ⟨rfl, HB.out.drewN' _⟩
set_option maxRecDepth 100000 in
theorem said2 (x : Ipc) (w : World) : Calls Tryz.prog 246 #[.agg #[Value.bool x.ha, .int .u32 x.addr.toNat, .bool x.h1, .int .u32 x.dns1.toNat, .bool x.h2, .int .u32 x.dns2.toNat]] w (SaidQ 129 x w) := by
  show Calls Tryz.prog 246 #[.agg #[Value.bool x.ha, .int .u32 x.addr.toNat, .bool x.h1, .int .u32 x.dns1.toNat, .bool x.h2, .int .u32 x.dns2.toNat]] w fun e w' => e = .returned (.tuple #[.int .u32 x.dns1.toNat, .bool x.h1]) ∧ Below w.heap.size w w'
  obtain ⟨W, hW, HW⟩ := boxL w x
  have HB := Lib.hid HW.out.2.1
  have c1 : W.cell? ⟨w.heap.size, 3, none⟩ = some (.int .u32 x.dns1.toNat) := HW.out.1.c 3
  have c2 : W.cell? ⟨w.heap.size, 2, none⟩ = some (.bool x.h1) := HW.out.1.c 2
  clear HW
  go_enter Tryz.func246, Tryz.ntmps246
  go_wp2
  clear hW
  go_quiet (fail)
  go_wp2
  go_ret2
  exact ⟨rfl, HB.out.drewN' _⟩
set_option maxRecDepth 100000 in
theorem said3 (x : Ipc) (w : World) : Calls Tryz.prog 248 #[.agg #[Value.bool x.ha, .int .u32 x.addr.toNat, .bool x.h1, .int .u32 x.dns1.toNat, .bool x.h2, .int .u32 x.dns2.toNat]] w (SaidQ 131 x w) := by
  show Calls Tryz.prog 248 #[.agg #[Value.bool x.ha, .int .u32 x.addr.toNat, .bool x.h1, .int .u32 x.dns1.toNat, .bool x.h2, .int .u32 x.dns2.toNat]] w fun e w' => e = .returned (.tuple #[.int .u32 x.dns2.toNat, .bool x.h2]) ∧ Below w.heap.size w w'
  obtain ⟨W, hW, HW⟩ := boxL w x
  have HB := Lib.hid HW.out.2.1
  have c1 : W.cell? ⟨w.heap.size, 5, none⟩ = some (.int .u32 x.dns2.toNat) := HW.out.1.c 5
  have c2 : W.cell? ⟨w.heap.size, 4, none⟩ = some (.bool x.h2) := HW.out.1.c 4
  clear HW
  go_enter Tryz.func248, Tryz.ntmps248
  go_wp2
  clear hW
  go_quiet (fail)
  go_wp2
  go_ret2
  exact ⟨rfl, HB.out.drewN' _⟩
def msV : Value := .agg #[.int .u8 3, .func (.func 244) #[] #[], .func (.func 245) #[] #[], .int .u8 129, .func (.func 246) #[] #[], .func (.func 247) #[] #[], .int .u8 131, .func (.func 248) #[] #[], .func (.func 249) #[] #[]]
set_option maxRecDepth 100000 in
theorem meanings_any (w : World) : Calls Tryz.prog 243 #[] w fun e w' => e = .returned msV ∧ Below w.heap.size w w' := by
  go_enter Tryz.func243, Tryz.ntmps243
  go_wp2
  refine bodyPost_ret (results_cell_row rfl _ _ w.heap.size _ _ _ _ rfl (World.alloc_heap_new w _) Tryz.underlying324 rfl (by kernel_rfl)) rfl ?_
  exact ⟨rfl, (Below.refl _ _).alloc (Nat.le_refl _) _⟩
def kd (k : Nat) : UInt8 := six.getD k 0
def fS (k : Nat) : FuncId := if k = 0 then 244 else if k = 1 then 246 else 248
def fW (k : Nat) : FuncId := if k = 0 then 245 else if k = 1 then 247 else 249
def mV (k : Nat) : List Value := [.int .u8 (kd k).toNat, .func (.func (fS k)) #[] #[], .func (.func (fW k)) #[] #[]]
theorem said_any (k : Nat) (hk : k < 3) (x : Ipc) (w : World) : Calls Tryz.prog (fS k) #[.agg (lv x).toArray] w (SaidQ (kd k) x w) := by
  rcases (show k = 0 ∨ k = 1 ∨ k = 2 by omega) with rfl | rfl | rfl
  · exact said1 x w
  · exact said2 x w
  · exact said3 x w
set_option maxRecDepth 100000 in
theorem said_enters (k : Nat) (hk : k < 3) : ∀ args w, (callFunc (fS k) args).run Tryz.prog w = .ok (.enter (fS k) args) w := by
  rcases (show k = 0 ∨ k = 1 ∨ k = 2 by omega) with rfl | rfl | rfl
  all_goals exact fun args w => by kernel_rfl
set_option maxRecDepth 100000 in
theorem index_ms (k : Nat) (hk : k < 3) (w : World) : (Instr.index 324 msV (.int .i64 (k : Nat))).run Tryz.prog w = .ok (.agg (mV k).toArray) w := by
  rcases (show k = 0 ∨ k = 1 ∨ k = 2 by omega) with rfl | rfl | rfl
  all_goals kernel_rfl
end Go.Proofs.YtpppggicihfbgaaGreat.Ipc

/- A policy in a block. -/
namespace Go.Proofs.YtpppggicihfbgaaGreat.Ipp
open Go.RowKit Go.Proofs.YtpppggicihfbgaaGreat.Oct Go.Proofs.YtpppggicihfbgaaGreat.Row Go.Proofs.YtpppggicihfbgaaGreat.Mem Go.Proofs.YtpppggicihfbgaaGreat.Opt Go.Proofs.YtpppggicihfbgaaGreat.Ipc

def PAt (w : World) (g : Nat) (p : Po) : Prop := Blk w g (pv p) 99
theorem PAt.lt {w : World} {g : Nat} {p : Po} (h : PAt w g p) : g < w.heap.size := Blk.lt h
theorem PAt.c {w : World} {g : Nat} {p : Po} (h : PAt w g p) (i : Nat) : w.cell? ⟨g, i, none⟩ = (pv p)[i]? := Blk.at_ h i
theorem PAt.f {w : World} {g : Nat} {p : Po} (h : PAt w g p) (i : Nat) : w.frozen? ⟨g, i, none⟩ = false := Blk.frozen h i
theorem PAt.moves {S : Nat → Prop} {w w' : World} {g : Nat} {p : Po} (h : PAt w g p) (hm : Moves S w w') (hs : ¬ S g) : PAt w' g p := Blk.moves h hm hs
theorem PAt.callee {w w' : World} {g : Nat} {p : Po} (h : PAt w g p) (hb : Below w.heap.size w w') : PAt w' g p := Blk.callee h hb
theorem PAt.below {w w' : World} {g n : Nat} {p : Po} (h : PAt w g p) (hb : Below n w w') (hg : g < n) : PAt w' g p := Blk.below h hb hg
theorem PAt.alloc {w : World} {g : Nat} {p : Po} (h : PAt w g p) (o : Obj) : PAt (w.alloc o) g p := Blk.alloc h o
theorem PAt.drewN {w : World} {g : Nat} {p : Po} (h : PAt w g p) (k : Nat) : PAt (w.drewN k) g p := h
theorem Blk.mid {w : World} {g : Nat} {cs : List Value} {t : TypeId} (h : Blk w g cs t) (o n : Nat) : w.rangeAt g o ((cs.drop o).take n) := fun j v hv => by
  obtain ⟨hj, _⟩ := List.getElem?_eq_some_iff.1 hv
  rw [List.length_take] at hj
  rw [List.getElem?_take_of_lt (by omega), List.getElem?_drop] at hv
  rw [Blk.at_ h, hv]
theorem PAt.mine {w : World} {g : Nat} {p : Po} (h : PAt w g p) : w.rangeAt g 12 (lv p.mine) := Blk.mid h 12 6
theorem PAt.peer {w : World} {g : Nat} {p : Po} (h : PAt w g p) : w.rangeAt g 18 (lv p.peer) := Blk.mid h 18 6
theorem PAt.wish {w : World} {g : Nat} {p : Po} (h : PAt w g p) : w.cell? ⟨g, 0, none⟩ = some (Value.bool p.w.ha) ∧ w.cell? ⟨g, 1, none⟩ = some (.int .u32 p.w.addr.toNat) ∧ w.cell? ⟨g, 2, none⟩ = some (Value.bool p.w.h1) ∧ w.cell? ⟨g, 3, none⟩ = some (.int .u32 p.w.dns1.toNat) ∧ w.cell? ⟨g, 4, none⟩ = some (Value.bool p.w.h2) ∧ w.cell? ⟨g, 5, none⟩ = some (.int .u32 p.w.dns2.toNat) :=
  ⟨h.c 0, h.c 1, h.c 2, h.c 3, h.c 4, h.c 5⟩
theorem cells6 {w : World} {g : Nat} {x : Ipc} (h : LAt w g x) : w.cell? ⟨g, 0, none⟩ = some (Value.bool x.ha) ∧ w.cell? ⟨g, 1, none⟩ = some (.int .u32 x.addr.toNat) ∧ w.cell? ⟨g, 2, none⟩ = some (Value.bool x.h1) ∧ w.cell? ⟨g, 3, none⟩ = some (.int .u32 x.dns1.toNat) ∧ w.cell? ⟨g, 4, none⟩ = some (Value.bool x.h2) ∧ w.cell? ⟨g, 5, none⟩ = some (.int .u32 x.dns2.toNat) :=
  ⟨h.c 0, h.c 1, h.c 2, h.c 3, h.c 4, h.c 5⟩
theorem res_ipc {f : Func} {p : Nat} {ty : TypeId} (hf : f.results = #[.cell p ty]) (tmps : Array Value) (W : World) (g : Nat) (x : Ipc) (hp : tmps.getD p undef = .pointer (some ⟨g, 0, none⟩)) (h : LAt W g x) (hu : Tryz.prog.underlying ty = Tryz.prog.underlying 97) (hi : (Tryz.prog.info? ty).map (·.size) = some 6) :
    (results f tmps).run Tryz.prog W = .ok (.agg (lv x).toArray) W := by
  rw [Tryz.underlying97] at hu
  exact results_cell_row hf tmps W g _ _ _ _ hp h hu rfl hi
theorem LAt.moves {S : Nat → Prop} {w w' : World} {g : Nat} {x : Ipc} (h : LAt w g x) (hm : Moves S w w') (hs : ¬ S g) : LAt w' g x := Blk.moves h hm hs
def BetQ (y : Ipc) (w : World) (e : Ending) (w' : World) : Prop := e = .returned (.agg (lv y).toArray) ∧ Below w.heap.size w w'
end Go.Proofs.YtpppggicihfbgaaGreat.Ipp

/- Contracts: cmp.Or at numbers, the functions that better an option. -/
namespace Go.Proofs.YtpppggicihfbgaaGreat.Ipp
open Go.RowKit Go.Proofs.YtpppggicihfbgaaGreat.Oct Go.Proofs.YtpppggicihfbgaaGreat.Row Go.Proofs.YtpppggicihfbgaaGreat.Mem Go.Proofs.YtpppggicihfbgaaGreat.Opt Go.Proofs.YtpppggicihfbgaaGreat.Ipc

end Go.Proofs.YtpppggicihfbgaaGreat.Ipp

/- The map of what is said of each option: how it is made, looked up. -/
namespace Go.Proofs.YtpppggicihfbgaaGreat.Ipp
open Go.RowKit Go.Proofs.YtpppggicihfbgaaGreat.Oct Go.Proofs.YtpppggicihfbgaaGreat.Row Go.Proofs.YtpppggicihfbgaaGreat.Mem Go.Proofs.YtpppggicihfbgaaGreat.Opt Go.Proofs.YtpppggicihfbgaaGreat.Ipc Go.ChangeMaps

def mB (t : UInt8) : Nat := if t = 3 then 230 else if t = 129 then 234 else 238
def mN (t : UInt8) : Nat := if t = 3 then 232 else if t = 129 then 235 else 239
def mX (t : UInt8) : Nat := if t = 3 then 233 else if t = 129 then 237 else 240
def trip (t : UInt8) : Value := .agg #[.func (.func (mB t)) #[] #[], .func (.func (mN t)) #[] #[], .func (.func (mX t)) #[] #[]]
def sents : Array MapEntry := #[⟨.int .u8 3, trip 3, 0⟩, ⟨.int .u8 129, trip 129, 1⟩, ⟨.int .u8 131, trip 131, 2⟩]
def Sy (W : World) (m : Nat) : Prop := W.heap[m]? = some (.map sents 3)
theorem Sy.lt {W : World} {m : Nat} (h : Sy W m) : m < W.heap.size := (Array.getElem?_eq_some_iff.1 h).1
theorem Sy.below {W W' : World} {m n : Nat} (h : Sy W m) (hb : Below n W W') (hm : m < n) : Sy W' m := (hb.block m hm).trans h
theorem Sy.callee {W W' : World} {m : Nat} (h : Sy W m) (hb : Below W.heap.size W W') : Sy W' m := h.below hb h.lt
theorem Sy.alloc {W : World} {m : Nat} (h : Sy W m) (o : Obj) : Sy (W.alloc o) m := (Below.heap_alloc W o m h.lt).trans h
theorem Sy.moves {S : Nat → Prop} {W W' : World} {m : Nat} (h : Sy W m) (hm : Moves S W W') (hs : ¬ S m) : Sy W' m := (hm.block m h.lt hs).trans h

/-! ### looking up -/
end Go.Proofs.YtpppggicihfbgaaGreat.Ipp
