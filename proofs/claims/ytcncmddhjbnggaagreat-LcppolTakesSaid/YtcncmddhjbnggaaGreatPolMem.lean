/- A policy in a block. -/
import Derived.Test.YtcncmddhjbnggaaGreatPolPure
import Derived.Test.YtcncmddhjbnggaaGreatLcoB
import Derived.Test.YtcncmddhjbnggaaGreatOptAt
import Derived.Deep.MidRow
import Derived.Laws.Rows
import Derived.Laws.Tables
import Derived.BigQuiet
import Derived.RegionTactic
import Derived.Deep.QuietTactic
namespace Go.Proofs.YtcncmddhjbnggaaGreat.Pol
open Go.RowKit Go.Proofs.YtcncmddhjbnggaaGreat.Oct Go.Proofs.YtcncmddhjbnggaaGreat.Row Go.Proofs.YtcncmddhjbnggaaGreat.Mem Go.Proofs.YtcncmddhjbnggaaGreat.Opt Go.Proofs.YtcncmddhjbnggaaGreat.Lco

/-- Policy p lies in block g. -/
def PAt (w : World) (g : Nat) (p : Po) : Prop := Blk w g (pv p) 66
theorem PAt.lt {w : World} {g : Nat} {p : Po} (h : PAt w g p) : g < w.heap.size := Blk.lt h
theorem PAt.c {w : World} {g : Nat} {p : Po} (h : PAt w g p) (i : Nat) : w.cell? ⟨g, i, none⟩ = (pv p)[i]? := Blk.at_ h i
theorem PAt.f {w : World} {g : Nat} {p : Po} (h : PAt w g p) (i : Nat) : w.frozen? ⟨g, i, none⟩ = false := Blk.frozen h i
theorem PAt.moves {S : Nat → Prop} {w w' : World} {g : Nat} {p : Po} (h : PAt w g p) (hm : Moves S w w') (hs : ¬ S g) : PAt w' g p := Blk.moves h hm hs
theorem PAt.callee {w w' : World} {g : Nat} {p : Po} (h : PAt w g p) (hb : Below w.heap.size w w') : PAt w' g p := Blk.callee h hb
theorem PAt.below {w w' : World} {g n : Nat} {p : Po} (h : PAt w g p) (hb : Below n w w') (hg : g < n) : PAt w' g p := Blk.below h hb hg
theorem PAt.alloc {w : World} {g : Nat} {p : Po} (h : PAt w g p) (o : Obj) : PAt (w.alloc o) g p := Blk.alloc h o
theorem PAt.drewN {w : World} {g : Nat} {p : Po} (h : PAt w g p) (k : Nat) : PAt (w.drewN k) g p := h
theorem set_moves (w : World) (g i : Nat) (v : Value) : Moves (fun k => k = g) w (w.setCell ⟨g, i, none⟩ v) := ⟨rfl, rfl, rfl, by simp [World.setCell], fun k _ hk => Below.heap_setCell _ _ _ _ hk⟩
theorem sets_moves (g : Nat) : ∀ (vs : List Value) (w : World) (i : Nat), Moves (fun k => k = g) w (w.setCells g i vs)
  | [], w, _ => Moves.refl _ w
  | v :: vs, w, i => (set_moves w g i v).trans (sets_moves g vs _ _) (fun _ _ h => h)
theorem Blk.mid {w : World} {g : Nat} {cs : List Value} {t : TypeId} (h : Blk w g cs t) (o n : Nat) : w.rangeAt g o ((cs.drop o).take n) := fun j v hv => by
  obtain ⟨hj, _⟩ := List.getElem?_eq_some_iff.1 hv
  rw [List.length_take] at hj
  rw [List.getElem?_take_of_lt (by omega), List.getElem?_drop] at hv
  rw [Blk.at_ h, hv]
theorem Blk.there {w : World} {g : Nat} {cs : List Value} {t : TypeId} (h : Blk w g cs t) (o n : Nat) (hn : o + n ≤ cs.length) : w.there g o n := fun j hj => by
  refine ⟨?_, Blk.frozen h _⟩
  rw [Blk.at_ h, List.getElem?_eq_getElem (by omega)]
  rfl
theorem PAt.conf {w : World} {g : Nat} {p : Po} (h : PAt w g p) : w.rangeAt g 9 (cv p.c) := Blk.mid h 9 10
theorem PAt.mine {w : World} {g : Nat} {p : Po} (h : PAt w g p) : w.rangeAt g 19 (lv p.mine) := Blk.mid h 19 9
theorem PAt.peer {w : World} {g : Nat} {p : Po} (h : PAt w g p) : w.rangeAt g 28 (lv p.peer) := Blk.mid h 28 9
theorem PAt.setMine {w : World} {g : Nat} {p : Po} (h : PAt w g p) (x : Lcp) : PAt (w.setCells g 19 (lv x)) g { p with mine := x } :=
  ((((((((Blk.set h 19 (.bool x.hm)).set 20 (.int .u16 x.mru.toNat)).set 21 (.bool x.ha)).set 22 (.int .u32 x.accm.toNat)).set 23 (.int .u8 x.auth.toNat)).set 24 (.bool x.hg)).set 25 (.int .u32 x.magic.toNat)).set 26 (.bool x.pfc)).set 27 (.bool x.acfc)
theorem PAt.setPeer {w : World} {g : Nat} {p : Po} (h : PAt w g p) (x : Lcp) : PAt (w.setCells g 28 (lv x)) g { p with peer := x } :=
  ((((((((Blk.set h 28 (.bool x.hm)).set 29 (.int .u16 x.mru.toNat)).set 30 (.bool x.ha)).set 31 (.int .u32 x.accm.toNat)).set 32 (.int .u8 x.auth.toNat)).set 33 (.bool x.hg)).set 34 (.int .u32 x.magic.toNat)).set 35 (.bool x.pfc)).set 36 (.bool x.acfc)
theorem PAt.setHm {w : World} {g : Nat} {p : Po} (h : PAt w g p) (b : Bool) : PAt (w.setCell ⟨g, 0, none⟩ (.bool b)) g { p with w := { p.w with hm := b } } := Blk.set h 0 (.bool b)
theorem PAt.setMru {w : World} {g : Nat} {p : Po} (h : PAt w g p) (v : UInt16) : PAt (w.setCell ⟨g, 1, none⟩ (.int .u16 v.toNat)) g { p with w := { p.w with mru := v } } := Blk.set h 1 (.int .u16 v.toNat)
theorem PAt.setHa {w : World} {g : Nat} {p : Po} (h : PAt w g p) (b : Bool) : PAt (w.setCell ⟨g, 2, none⟩ (.bool b)) g { p with w := { p.w with ha := b } } := Blk.set h 2 (.bool b)
theorem PAt.setAccm {w : World} {g : Nat} {p : Po} (h : PAt w g p) (v : UInt32) : PAt (w.setCell ⟨g, 3, none⟩ (.int .u32 v.toNat)) g { p with w := { p.w with accm := v } } := Blk.set h 3 (.int .u32 v.toNat)
theorem PAt.setAuth {w : World} {g : Nat} {p : Po} (h : PAt w g p) (v : UInt8) : PAt (w.setCell ⟨g, 4, none⟩ (.int .u8 v.toNat)) g { p with w := { p.w with auth := v } } := Blk.set h 4 (.int .u8 v.toNat)
theorem PAt.setHg {w : World} {g : Nat} {p : Po} (h : PAt w g p) (b : Bool) : PAt (w.setCell ⟨g, 5, none⟩ (.bool b)) g { p with w := { p.w with hg := b } } := Blk.set h 5 (.bool b)
theorem PAt.setMagic {w : World} {g : Nat} {p : Po} (h : PAt w g p) (v : UInt32) : PAt (w.setCell ⟨g, 6, none⟩ (.int .u32 v.toNat)) g { p with w := { p.w with magic := v } } := Blk.set h 6 (.int .u32 v.toNat)
theorem PAt.setPfc {w : World} {g : Nat} {p : Po} (h : PAt w g p) (b : Bool) : PAt (w.setCell ⟨g, 7, none⟩ (.bool b)) g { p with w := { p.w with pfc := b } } := Blk.set h 7 (.bool b)
theorem PAt.setAcfc {w : World} {g : Nat} {p : Po} (h : PAt w g p) (b : Bool) : PAt (w.setCell ⟨g, 8, none⟩ (.bool b)) g { p with w := { p.w with acfc := b } } := Blk.set h 8 (.bool b)
theorem PAt.setNaks {w : World} {g : Nat} {p : Po} (h : PAt w g p) (n : Nat) : PAt (w.setCell ⟨g, 37, none⟩ (.int .i64 n)) g { p with naks := n } := Blk.set h 37 (.int .i64 n)
theorem PAt.setLoops {w : World} {g : Nat} {p : Po} (h : PAt w g p) (n : Nat) : PAt (w.setCell ⟨g, 38, none⟩ (.int .i64 n)) g { p with loops := n } := Blk.set h 38 (.int .i64 n)
theorem PAt.setBad {w : World} {g : Nat} {p : Po} (h : PAt w g p) (b : Bool) : PAt (w.setCell ⟨g, 39, none⟩ (.bool b)) g { p with bad := b } := Blk.set h 39 (.bool b)
/-- The wishes' cells. -/
theorem PAt.wish {w : World} {g : Nat} {p : Po} (h : PAt w g p) : w.cell? ⟨g, 0, none⟩ = some (Value.bool p.w.hm) ∧ w.cell? ⟨g, 1, none⟩ = some (.int .u16 p.w.mru.toNat) ∧ w.cell? ⟨g, 2, none⟩ = some (.bool p.w.ha) ∧ w.cell? ⟨g, 3, none⟩ = some (.int .u32 p.w.accm.toNat) ∧ w.cell? ⟨g, 4, none⟩ = some (.int .u8 p.w.auth.toNat) ∧ w.cell? ⟨g, 5, none⟩ = some (.bool p.w.hg) ∧ w.cell? ⟨g, 6, none⟩ = some (.int .u32 p.w.magic.toNat) ∧ w.cell? ⟨g, 7, none⟩ = some (.bool p.w.pfc) ∧ w.cell? ⟨g, 8, none⟩ = some (.bool p.w.acfc) :=
  ⟨h.c 0, h.c 1, h.c 2, h.c 3, h.c 4, h.c 5, h.c 6, h.c 7, h.c 8⟩
theorem Moves.one {w w' : World} {g : Nat} (h : Below w.heap.size w w') : Moves (fun k => k = g) w w' := Moves.of_below h
/-- An answer that is a struct of nine cells in a named result's block. -/
theorem res_lcp {f : Func} {p : Nat} {ty : TypeId} (hf : f.results = #[.cell p ty]) (tmps : Array Value) (W : World) (g : Nat) (x : Lcp) (hp : tmps.getD p undef = .pointer (some ⟨g, 0, none⟩)) (h : LAt W g x) (hu : Tryz.prog.underlying ty = Tryz.prog.underlying 37) (hi : (Tryz.prog.info? ty).map (·.size) = some 9) :
    (results f tmps).run Tryz.prog W = .ok (.agg (lv x).toArray) W := by
  rw [Tryz.underlying37] at hu
  exact results_cell_row hf tmps W g _ _ _ _ hp h hu rfl hi
end Go.Proofs.YtcncmddhjbnggaaGreat.Pol
