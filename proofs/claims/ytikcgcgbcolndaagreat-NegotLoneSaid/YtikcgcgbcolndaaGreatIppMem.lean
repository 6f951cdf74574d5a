/- A policy in a block. -/
import Derived.Test.YtikcgcgbcolndaaGreatIppPure
import Derived.Test.YtikcgcgbcolndaaGreatIpcA
import Derived.Test.YtikcgcgbcolndaaGreatOptAt
import Derived.Deep.MidRow
import Derived.Laws.Rows
import Derived.Laws.Tables
import Derived.BigQuiet
import Derived.RegionTactic
import Derived.Deep.QuietTactic
namespace Go.Proofs.YtikcgcgbcolndaaGreat.Ipp
open Go.RowKit Go.Proofs.YtikcgcgbcolndaaGreat.Oct Go.Proofs.YtikcgcgbcolndaaGreat.Row Go.Proofs.YtikcgcgbcolndaaGreat.Mem Go.Proofs.YtikcgcgbcolndaaGreat.Opt Go.Proofs.YtikcgcgbcolndaaGreat.Ipc

/-- Policy p lies in block g. -/
def PAt (w : World) (g : Nat) (p : Po) : Prop := Blk w g (pv p) 102
theorem PAt.lt {w : World} {g : Nat} {p : Po} (h : PAt w g p) : g < w.heap.size := Blk.lt h
theorem PAt.c {w : World} {g : Nat} {p : Po} (h : PAt w g p) (i : Nat) : w.cell? ⟨g, i, none⟩ = (pv p)[i]? := Blk.at_ h i
theorem PAt.f {w : World} {g : Nat} {p : Po} (h : PAt w g p) (i : Nat) : w.frozen? ⟨g, i, none⟩ = false := Blk.frozen h i
theorem PAt.moves {S : Nat → Prop} {w w' : World} {g : Nat} {p : Po} (h : PAt w g p) (hm : Moves S w w') (hs : ¬ S g) : PAt w' g p := Blk.moves h hm hs
theorem PAt.callee {w w' : World} {g : Nat} {p : Po} (h : PAt w g p) (hb : Below w.heap.size w w') : PAt w' g p := Blk.callee h hb
theorem PAt.below {w w' : World} {g n : Nat} {p : Po} (h : PAt w g p) (hb : Below n w w') (hg : g < n) : PAt w' g p := Blk.below h hb hg
theorem PAt.alloc {w : World} {g : Nat} {p : Po} (h : PAt w g p) (o : Obj) : PAt (w.alloc o) g p := Blk.alloc h o
theorem PAt.drewN {w : World} {g : Nat} {p : Po} (h : PAt w g p) (k : Nat) : PAt (w.drewN k) g p := h
theorem set_moves (w : World) (g i : Nat) (v : Value) : Moves (fun k => k = g) w (w.setCell ⟨g, i, none⟩ v) := ⟨rfl, rfl, rfl, by simp [World.setCell], fun k _ hk => Below.heap_setCell _ _ _ _ hk⟩
theorem sets_moves (g : Nat) : ∀ (vs : List Value) (w : World) (i : Nat), Moves (fun k => k = g) w (w.setCells g i vs)
  | [], w, _ => Moves.refl _ w
  | v :: vs, w, i => (set_moves w g i v).trans (sets_moves g vs _ _) (fun _ _ h => h)
theorem Blk.mid {w : World} {g : Nat} {cs : List Value} {t : TypeId} (h : Blk w g cs t) (o n : Nat) : w.rangeAt g o ((cs.drop o).take n) := fun j v hv => by
  obtain ⟨hj, _⟩ := List.getElem?_eq_some_iff.1 hv
  rw [List.length_take] at hj
  rw [List.getElem?_take_of_lt (by omega), List.getElem?_drop] at hv
  rw [Blk.at_ h, hv]
theorem Blk.there {w : World} {g : Nat} {cs : List Value} {t : TypeId} (h : Blk w g cs t) (o n : Nat) (hn : o + n ≤ cs.length) : w.there g o n := fun j hj => by
  refine ⟨?_, Blk.frozen h _⟩
  rw [Blk.at_ h, List.getElem?_eq_getElem (by omega)]
  rfl
theorem PAt.conf {w : World} {g : Nat} {p : Po} (h : PAt w g p) : w.rangeAt g 6 (cv p.c) := Blk.mid h 6 6
theorem PAt.mine {w : World} {g : Nat} {p : Po} (h : PAt w g p) : w.rangeAt g 12 (lv p.mine) := Blk.mid h 12 6
theorem PAt.peer {w : World} {g : Nat} {p : Po} (h : PAt w g p) : w.rangeAt g 18 (lv p.peer) := Blk.mid h 18 6
theorem PAt.setMine {w : World} {g : Nat} {p : Po} (h : PAt w g p) (x : Ipc) : PAt (w.setCells g 12 (lv x)) g { p with mine := x } :=
  (((((Blk.set h 12 (.bool x.ha)).set 13 (.int .u32 x.addr.toNat)).set 14 (.bool x.h1)).set 15 (.int .u32 x.dns1.toNat)).set 16 (.bool x.h2)).set 17 (.int .u32 x.dns2.toNat)
theorem PAt.setPeer {w : World} {g : Nat} {p : Po} (h : PAt w g p) (x : Ipc) : PAt (w.setCells g 18 (lv x)) g { p with peer := x } :=
  (((((Blk.set h 18 (.bool x.ha)).set 19 (.int .u32 x.addr.toNat)).set 20 (.bool x.h1)).set 21 (.int .u32 x.dns1.toNat)).set 22 (.bool x.h2)).set 23 (.int .u32 x.dns2.toNat)
theorem PAt.setHa {w : World} {g : Nat} {p : Po} (h : PAt w g p) (v : Bool) : PAt (w.setCell ⟨g, 0, none⟩ (.bool v)) g { p with w := { p.w with ha := v } } := Blk.set h 0 (.bool v)
theorem PAt.setAddr {w : World} {g : Nat} {p : Po} (h : PAt w g p) (v : UInt32) : PAt (w.setCell ⟨g, 1, none⟩ (.int .u32 v.toNat)) g { p with w := { p.w with addr := v } } := Blk.set h 1 (.int .u32 v.toNat)
theorem PAt.setH1 {w : World} {g : Nat} {p : Po} (h : PAt w g p) (v : Bool) : PAt (w.setCell ⟨g, 2, none⟩ (.bool v)) g { p with w := { p.w with h1 := v } } := Blk.set h 2 (.bool v)
theorem PAt.setDns1 {w : World} {g : Nat} {p : Po} (h : PAt w g p) (v : UInt32) : PAt (w.setCell ⟨g, 3, none⟩ (.int .u32 v.toNat)) g { p with w := { p.w with dns1 := v } } := Blk.set h 3 (.int .u32 v.toNat)
theorem PAt.setH2 {w : World} {g : Nat} {p : Po} (h : PAt w g p) (v : Bool) : PAt (w.setCell ⟨g, 4, none⟩ (.bool v)) g { p with w := { p.w with h2 := v } } := Blk.set h 4 (.bool v)
theorem PAt.setDns2 {w : World} {g : Nat} {p : Po} (h : PAt w g p) (v : UInt32) : PAt (w.setCell ⟨g, 5, none⟩ (.int .u32 v.toNat)) g { p with w := { p.w with dns2 := v } } := Blk.set h 5 (.int .u32 v.toNat)
theorem PAt.setNaks {w : World} {g : Nat} {p : Po} (h : PAt w g p) (n : Nat) : PAt (w.setCell ⟨g, 24, none⟩ (.int .i64 n)) g { p with naks := n } := Blk.set h 24 (.int .i64 n)
/-- The wishes' cells. -/
theorem PAt.wish {w : World} {g : Nat} {p : Po} (h : PAt w g p) : w.cell? ⟨g, 0, none⟩ = some (Value.bool p.w.ha) ∧ w.cell? ⟨g, 1, none⟩ = some (.int .u32 p.w.addr.toNat) ∧ w.cell? ⟨g, 2, none⟩ = some (Value.bool p.w.h1) ∧ w.cell? ⟨g, 3, none⟩ = some (.int .u32 p.w.dns1.toNat) ∧ w.cell? ⟨g, 4, none⟩ = some (Value.bool p.w.h2) ∧ w.cell? ⟨g, 5, none⟩ = some (.int .u32 p.w.dns2.toNat) :=
  ⟨h.c 0, h.c 1, h.c 2, h.c 3, h.c 4, h.c 5⟩
/-- Any struct's cells. -/
theorem cells6 {w : World} {g : Nat} {x : Ipc} (h : LAt w g x) : w.cell? ⟨g, 0, none⟩ = some (Value.bool x.ha) ∧ w.cell? ⟨g, 1, none⟩ = some (.int .u32 x.addr.toNat) ∧ w.cell? ⟨g, 2, none⟩ = some (Value.bool x.h1) ∧ w.cell? ⟨g, 3, none⟩ = some (.int .u32 x.dns1.toNat) ∧ w.cell? ⟨g, 4, none⟩ = some (Value.bool x.h2) ∧ w.cell? ⟨g, 5, none⟩ = some (.int .u32 x.dns2.toNat) :=
  ⟨h.c 0, h.c 1, h.c 2, h.c 3, h.c 4, h.c 5⟩
/-- An answer that is a struct of six cells in a named result's block. -/
theorem res_ipc {f : Func} {p : Nat} {ty : TypeId} (hf : f.results = #[.cell p ty]) (tmps : Array Value) (W : World) (g : Nat) (x : Ipc) (hp : tmps.getD p undef = .pointer (some ⟨g, 0, none⟩)) (h : LAt W g x) (hu : Tryz.prog.underlying ty = Tryz.prog.underlying 52) (hi : (Tryz.prog.info? ty).map (·.size) = some 6) :
    (results f tmps).run Tryz.prog W = .ok (.agg (lv x).toArray) W := by
  rw [Tryz.underlying52] at hu
  exact results_cell_row hf tmps W g _ _ _ _ hp h hu rfl hi
set_option maxRecDepth 100000 in
theorem ipc_size (x : Ipc) : (Tryz.prog.info? 52).map (·.size) = some (lv x).toArray.size := by
  rw [List.size_toArray]
  kernel_rfl
theorem lv_one (x : Ipc) : (lv x).toArray.all (·.oneCell') = true := by
  refine all_oneCell_toArray fun v hv => ?_
  unfold lv at hv
  simp only [List.mem_cons, List.not_mem_nil, or_false] at hv
  rcases hv with rfl | rfl | rfl | rfl | rfl | rfl <;> rfl
theorem LAt.moves {S : Nat → Prop} {w w' : World} {g : Nat} {x : Ipc} (h : LAt w g x) (hm : Moves S w w') (hs : ¬ S g) : LAt w' g x := Blk.moves h hm hs
theorem lat_row {W : World} {g : Nat} {x : Ipc} (h : LAt W g x) (y : Ipc) : LAt (W.setRow g (lv y).toArray) g y := Blk.setRow h (lv y)
set_option maxRecDepth 100000 in
/-- The end: the struct was laid over the named result's. -/
theorem bet_res {f : Func} {p g0 : Nat} (hf : f.results = #[.cell p 52]) (tmps : Array Value) {W : World} {z : Ipc} (y : Ipc) (h : LAt W g0 z) (hp : tmps.getD p undef = .pointer (some ⟨g0, 0, none⟩)) :
    (results f tmps).run Tryz.prog (W.setRow g0 (lv y).toArray) = .ok (.agg (lv y).toArray) (W.setRow g0 (lv y).toArray) := res_ipc hf tmps _ g0 y hp (lat_row h y) rfl (by kernel_rfl)
/-- What a function of the map says: a struct. -/
def BetQ (y : Ipc) (w : World) (e : Ending) (w' : World) : Prop := e = .returned (.agg (lv y).toArray) ∧ Below w.heap.size w w'
theorem bet_q {w W : World} {g0 : Nat} (y : Ipc) (hB : Below w.heap.size w W) (hg : w.heap.size ≤ g0) : BetQ y w (.returned (.agg (lv y).toArray)) (W.setRow g0 (lv y).toArray) :=
  ⟨rfl, hB.trans ((moves_row W g0 _).below hB.size fun k e => by rw [e]; exact hg)⟩
theorem u32_ne0 (v : UInt32) : ((v.toNat : Int) != 0) = (v != 0) := by
  rw [Bool.eq_iff_iff, bne_iff_ne, bne_iff_ne]
  exact ⟨fun h e => h (by rw [e]; rfl), fun h e => h (UInt32.toNat_inj.1 (by show v.toNat = 0; omega))⟩
theorem u32_eq0 (v : UInt32) : ((v.toNat : Int) == 0) = (v == 0) := by
  rw [Bool.eq_iff_iff, beq_iff_eq, beq_iff_eq]
  exact ⟨fun h => UInt32.toNat_inj.1 (by show v.toNat = 0; omega), fun e => by rw [e]; rfl⟩
end Go.Proofs.YtikcgcgbcolndaaGreat.Ipp
