/- Put together: PolMem, PolA, PolB, PolC, PolN, PolO. -/
import Derived.Test.YtikcgcgbcolndaaGreatG17
import Derived.Test.YtikcgcgbcolndaaGreatG21
import Derived.Test.YtikcgcgbcolndaaGreatG33
import Derived.Deep.MidRow
import Derived.Laws.Rows
import Derived.Laws.Tables
import Derived.BigQuiet
import Derived.RegionTactic
import Derived.Deep.QuietTactic
import Derived.Laws.BitsAllLaws

/- A policy in a block. -/
namespace Go.Proofs.YtikcgcgbcolndaaGreat.Pol
open Go.RowKit Go.Proofs.YtikcgcgbcolndaaGreat.Oct Go.Proofs.YtikcgcgbcolndaaGreat.Row Go.Proofs.YtikcgcgbcolndaaGreat.Mem Go.Proofs.YtikcgcgbcolndaaGreat.Opt Go.Proofs.YtikcgcgbcolndaaGreat.Lco

/-- Policy p lies in block g. -/
def PAt (w : World) (g : Nat) (p : Po) : Prop := Blk w g (pv p) 95
theorem PAt.lt {w : World} {g : Nat} {p : Po} (h : PAt w g p) : g < w.heap.size := Blk.lt h
theorem PAt.c {w : World} {g : Nat} {p : Po} (h : PAt w g p) (i : Nat) : w.cell? ⟨g, i, none⟩ = (pv p)[i]? := Blk.at_ h i
theorem PAt.f {w : World} {g : Nat} {p : Po} (h : PAt w g p) (i : Nat) : w.frozen? ⟨g, i, none⟩ = false := Blk.frozen h i
theorem PAt.moves {S : Nat → Prop} {w w' : World} {g : Nat} {p : Po} (h : PAt w g p) (hm : Moves S w w') (hs : ¬ S g) : PAt w' g p := Blk.moves h hm hs
theorem PAt.callee {w w' : World} {g : Nat} {p : Po} (h : PAt w g p) (hb : Below w.heap.size w w') : PAt w' g p := Blk.callee h hb
theorem PAt.below {w w' : World} {g n : Nat} {p : Po} (h : PAt w g p) (hb : Below n w w') (hg : g < n) : PAt w' g p := Blk.below h hb hg
theorem PAt.alloc {w : World} {g : Nat} {p : Po} (h : PAt w g p) (o : Obj) : PAt (w.alloc o) g p := Blk.alloc h o
theorem PAt.drewN {w : World} {g : Nat} {p : Po} (h : PAt w g p) (k : Nat) : PAt (w.drewN k) g p := h
theorem set_moves (w : World) (g i : Nat) (v : Value) : Moves (fun k => k = g) w (w.setCell ⟨g, i, none⟩ v) := ⟨rfl, rfl, rfl, by simp [World.setCell], fun k _ hk => Below.heap_setCell _ _ _ _ hk⟩
theorem sets_moves (g : Nat) : ∀ (vs : List Value) (w : World) (i : Nat), Moves (fun k => k = g) w (w.setCells g i vs)
  | [], w, _ => Moves.refl _ w
  | v :: vs, w, i => (set_moves w g i v).trans (sets_moves g vs _ _) (fun _ _ h => h)
theorem Blk.mid {w : World} {g : Nat} {cs : List Value} {t : TypeId} (h : Blk w g cs t) (o n : Nat) : w.rangeAt g o ((cs.drop o).take n) := fun j v hv => by
  obtain ⟨hj, _⟩ := List.getElem?_eq_some_iff.1 hv
  rw [List.length_take] at hj
  rw [List.getElem?_take_of_lt (by omega), List.getElem?_drop] at hv
  rw [Blk.at_ h, hv]
theorem Blk.there {w : World} {g : Nat} {cs : List Value} {t : TypeId} (h : Blk w g cs t) (o n : Nat) (hn : o + n ≤ cs.length) : w.there g o n := fun j hj => by
  refine ⟨?_, Blk.frozen h _⟩
  rw [Blk.at_ h, List.getElem?_eq_getElem (by omega)]
  rfl
theorem PAt.conf {w : World} {g : Nat} {p : Po} (h : PAt w g p) : w.rangeAt g 9 (cv p.c) := Blk.mid h 9 10
theorem PAt.mine {w : World} {g : Nat} {p : Po} (h : PAt w g p) : w.rangeAt g 19 (lv p.mine) := Blk.mid h 19 9
theorem PAt.peer {w : World} {g : Nat} {p : Po} (h : PAt w g p) : w.rangeAt g 28 (lv p.peer) := Blk.mid h 28 9
theorem PAt.setMine {w : World} {g : Nat} {p : Po} (h : PAt w g p) (x : Lcp) : PAt (w.setCells g 19 (lv x)) g { p with mine := x } :=
  ((((((((Blk.set h 19 (.bool x.hm)).set 20 (.int .u16 x.mru.toNat)).set 21 (.bool x.ha)).set 22 (.int .u32 x.accm.toNat)).set 23 (.int .u8 x.auth.toNat)).set 24 (.bool x.hg)).set 25 (.int .u32 x.magic.toNat)).set 26 (.bool x.pfc)).set 27 (.bool x.acfc)
theorem PAt.setPeer {w : World} {g : Nat} {p : Po} (h : PAt w g p) (x : Lcp) : PAt (w.setCells g 28 (lv x)) g { p with peer := x } :=
  ((((((((Blk.set h 28 (.bool x.hm)).set 29 (.int .u16 x.mru.toNat)).set 30 (.bool x.ha)).set 31 (.int .u32 x.accm.toNat)).set 32 (.int .u8 x.auth.toNat)).set 33 (.bool x.hg)).set 34 (.int .u32 x.magic.toNat)).set 35 (.bool x.pfc)).set 36 (.bool x.acfc)
theorem PAt.setHm {w : World} {g : Nat} {p : Po} (h : PAt w g p) (b : Bool) : PAt (w.setCell ⟨g, 0, none⟩ (.bool b)) g { p with w := { p.w with hm := b } } := Blk.set h 0 (.bool b)
theorem PAt.setMru {w : World} {g : Nat} {p : Po} (h : PAt w g p) (v : UInt16) : PAt (w.setCell ⟨g, 1, none⟩ (.int .u16 v.toNat)) g { p with w := { p.w with mru := v } } := Blk.set h 1 (.int .u16 v.toNat)
theorem PAt.setHa {w : World} {g : Nat} {p : Po} (h : PAt w g p) (b : Bool) : PAt (w.setCell ⟨g, 2, none⟩ (.bool b)) g { p with w := { p.w with ha := b } } := Blk.set h 2 (.bool b)
theorem PAt.setAccm {w : World} {g : Nat} {p : Po} (h : PAt w g p) (v : UInt32) : PAt (w.setCell ⟨g, 3, none⟩ (.int .u32 v.toNat)) g { p with w := { p.w with accm := v } } := Blk.set h 3 (.int .u32 v.toNat)
theorem PAt.setAuth {w : World} {g : Nat} {p : Po} (h : PAt w g p) (v : UInt8) : PAt (w.setCell ⟨g, 4, none⟩ (.int .u8 v.toNat)) g { p with w := { p.w with auth := v } } := Blk.set h 4 (.int .u8 v.toNat)
theorem PAt.setHg {w : World} {g : Nat} {p : Po} (h : PAt w g p) (b : Bool) : PAt (w.setCell ⟨g, 5, none⟩ (.bool b)) g { p with w := { p.w with hg := b } } := Blk.set h 5 (.bool b)
theorem PAt.setMagic {w : World} {g : Nat} {p : Po} (h : PAt w g p) (v : UInt32) : PAt (w.setCell ⟨g, 6, none⟩ (.int .u32 v.toNat)) g { p with w := { p.w with magic := v } } := Blk.set h 6 (.int .u32 v.toNat)
theorem PAt.setPfc {w : World} {g : Nat} {p : Po} (h : PAt w g p) (b : Bool) : PAt (w.setCell ⟨g, 7, none⟩ (.bool b)) g { p with w := { p.w with pfc := b } } := Blk.set h 7 (.bool b)
theorem PAt.setAcfc {w : World} {g : Nat} {p : Po} (h : PAt w g p) (b : Bool) : PAt (w.setCell ⟨g, 8, none⟩ (.bool b)) g { p with w := { p.w with acfc := b } } := Blk.set h 8 (.bool b)
theorem PAt.setNaks {w : World} {g : Nat} {p : Po} (h : PAt w g p) (n : Nat) : PAt (w.setCell ⟨g, 37, none⟩ (.int .i64 n)) g { p with naks := n } := Blk.set h 37 (.int .i64 n)
theorem PAt.setLoops {w : World} {g : Nat} {p : Po} (h : PAt w g p) (n : Nat) : PAt (w.setCell ⟨g, 38, none⟩ (.int .i64 n)) g { p with loops := n } := Blk.set h 38 (.int .i64 n)
theorem PAt.setBad {w : World} {g : Nat} {p : Po} (h : PAt w g p) (b : Bool) : PAt (w.setCell ⟨g, 39, none⟩ (.bool b)) g { p with bad := b } := Blk.set h 39 (.bool b)
/-- The wishes' cells. -/
theorem PAt.wish {w : World} {g : Nat} {p : Po} (h : PAt w g p) : w.cell? ⟨g, 0, none⟩ = some (Value.bool p.w.hm) ∧ w.cell? ⟨g, 1, none⟩ = some (.int .u16 p.w.mru.toNat) ∧ w.cell? ⟨g, 2, none⟩ = some (.bool p.w.ha) ∧ w.cell? ⟨g, 3, none⟩ = some (.int .u32 p.w.accm.toNat) ∧ w.cell? ⟨g, 4, none⟩ = some (.int .u8 p.w.auth.toNat) ∧ w.cell? ⟨g, 5, none⟩ = some (.bool p.w.hg) ∧ w.cell? ⟨g, 6, none⟩ = some (.int .u32 p.w.magic.toNat) ∧ w.cell? ⟨g, 7, none⟩ = some (.bool p.w.pfc) ∧ w.cell? ⟨g, 8, none⟩ = some (.bool p.w.acfc) :=
  ⟨h.c 0, h.c 1, h.c 2, h.c 3, h.c 4, h.c 5, h.c 6, h.c 7, h.c 8⟩
theorem Moves.one {w w' : World} {g : Nat} (h : Below w.heap.size w w') : Moves (fun k => k = g) w w' := Moves.of_below h
/-- An answer that is a struct of nine cells in a named result's block. -/
theorem res_lcp {f : Func} {p : Nat} {ty : TypeId} (hf : f.results = #[.cell p ty]) (tmps : Array Value) (W : World) (g : Nat) (x : Lcp) (hp : tmps.getD p undef = .pointer (some ⟨g, 0, none⟩)) (h : LAt W g x) (hu : Tryz.prog.underlying ty = Tryz.prog.underlying 42) (hi : (Tryz.prog.info? ty).map (·.size) = some 9) :
    (results f tmps).run Tryz.prog W = .ok (.agg (lv x).toArray) W := by
  rw [Tryz.underlying42] at hu
  exact results_cell_row hf tmps W g _ _ _ _ hp h hu rfl hi
end Go.Proofs.YtikcgcgbcolndaaGreat.Pol

/- Contracts: nonZero, isOwn, good, betterMru, betterAuth, betterMagic. -/
namespace Go.Proofs.YtikcgcgbcolndaaGreat.Pol
open Go.RowKit Go.Proofs.YtikcgcgbcolndaaGreat.Oct Go.Proofs.YtikcgcgbcolndaaGreat.Row Go.Proofs.YtikcgcgbcolndaaGreat.Mem Go.Proofs.YtikcgcgbcolndaaGreat.Opt Go.Proofs.YtikcgcgbcolndaaGreat.Lco

set_option maxHeartbeats 400000 in
set_option maxRecDepth 100000 in
theorem nz_any (v : UInt32) (w : World) : Calls Tryz.prog 62 #[.int .u32 v.toNat] w fun e w' => e = .returned (.int .u32 (nz v).toNat) ∧ w = w' := by
  by_cases h : v = 0
  · subst h
    go_enter Tryz.func62, Tryz.ntmps62
    go_wp2
    go_ret
    exact ⟨rfl, rfl⟩
  · have HE : Hid (nz v = v) := if_neg h
    have h1 : 1 ≤ v.toNat := by
      rcases Nat.eq_zero_or_pos v.toNat with h0 | h0
      · exact absurd (UInt32.toNat_inj.1 h0) h
      · exact h0
    have hd : decide ((v.toNat : Int) < 1) = false := decide_eq_false (by omega)
    have hd2 : ¬ ((v.toNat : Int) < 1) := by omega
    clear h h1
    go_enter Tryz.func62, Tryz.ntmps62
    go_wp2
    go_ret
    exact ⟨by rw [HE.out] <;> rfl, rfl⟩
set_option maxHeartbeats 2000000 in
set_option maxRecDepth 100000 in
theorem own_any (g : Nat) (p : Po) (x : Lcp) (w : World) (h : PAt w g p) : Calls Tryz.prog 161 #[.pointer (some ⟨g, 0, none⟩), .agg (lv x).toArray] w fun e w' => e = .returned (.bool (isOwn p.w x)) ∧ Below w.heap.size w w' := by
  show Calls Tryz.prog 161 #[.pointer (some ⟨g, 0, none⟩), .agg #[Value.bool x.hm, .int .u16 x.mru.toNat, .bool x.ha, .int .u32 x.accm.toNat, .int .u8 x.auth.toNat, .bool x.hg, .int .u32 x.magic.toNat, .bool x.pfc, .bool x.acfc]] w fun e w' => e = .returned (.bool (isOwn p.w x)) ∧ Below w.heap.size w w'
  obtain ⟨W, hW, HW⟩ := boxL w x
  have HP : Hid (PAt W g p) := h.callee HW.out.2.1
  have p5 : W.cell? ⟨g, 5, none⟩ = some (.bool p.w.hg) := HP.out.c 5
  have p6 : W.cell? ⟨g, 6, none⟩ = some (.int .u32 p.w.magic.toNat) := HP.out.c 6
  have x5 : W.cell? ⟨w.heap.size, 5, none⟩ = some (.bool x.hg) := HW.out.1.c 5
  have x6 : W.cell? ⟨w.heap.size, 6, none⟩ = some (.int .u32 x.magic.toNat) := HW.out.1.c 6
  have HB := Lib.hid HW.out.2.1
  have he : ((x.magic.toNat : Int) == (p.w.magic.toNat : Int)) = (x.magic == p.w.magic) := by
    rw [Bool.eq_iff_iff, beq_iff_eq, beq_iff_eq]
    exact ⟨fun e => UInt32.toNat_inj.1 (by omega), fun e => by rw [e]⟩
  have HO : Hid (isOwn p.w x = (p.w.hg && x.hg && (x.magic == p.w.magic))) := rfl
  rw [HO.out]
  generalize (x.magic == p.w.magic) = b at *
  generalize p.w.hg = b1 at *
  generalize x.hg = b2 at *
  clear h HO
  cases b1
  · go_enter Tryz.func161, Tryz.ntmps161
    go_wp2
    clear hW
    go_quiet (fail)
    go_wp2
    go_ret
    exact ⟨rfl, HB.out.drewN' _⟩
  · cases b2
    · go_enter Tryz.func161, Tryz.ntmps161
      go_wp2
      clear hW
      go_quiet (fail)
      go_wp2
      go_ret
      exact ⟨rfl, HB.out.drewN' _⟩
    · go_enter Tryz.func161, Tryz.ntmps161
      go_wp2
      clear hW
      go_quiet (fail)
      go_wp2
      go_ret
      exact ⟨rfl, HB.out.drewN' _⟩

/-- What a function of the map says: a struct. -/
def BetQ (y : Lcp) (w : World) (e : Ending) (w' : World) : Prop := e = .returned (.agg (lv y).toArray) ∧ Below w.heap.size w w'
set_option maxRecDepth 100000 in
theorem lcp_size (x : Lcp) : (Tryz.prog.info? 42).map (·.size) = some (lv x).toArray.size := by
  rw [List.size_toArray]
  kernel_rfl
theorem lv_one (x : Lcp) : (lv x).toArray.all (·.oneCell') = true := by
  refine all_oneCell_toArray fun v hv => ?_
  unfold lv at hv
  simp only [List.mem_cons, List.not_mem_nil, or_false] at hv
  rcases hv with rfl | rfl | rfl | rfl | rfl | rfl | rfl | rfl | rfl <;> rfl
theorem LAt.setMru {W : World} {g : Nat} {x : Lcp} (h : LAt W g x) (v : UInt16) : LAt (W.setCell ⟨g, 1, none⟩ (.int .u16 v.toNat)) g { x with mru := v } := Blk.set h 1 (.int .u16 v.toNat)
theorem LAt.setAuth {W : World} {g : Nat} {x : Lcp} (h : LAt W g x) (v : UInt8) : LAt (W.setCell ⟨g, 4, none⟩ (.int .u8 v.toNat)) g { x with auth := v } := Blk.set h 4 (.int .u8 v.toNat)
theorem LAt.setMagic {W : World} {g : Nat} {x : Lcp} (h : LAt W g x) (v : UInt32) : LAt (W.setCell ⟨g, 6, none⟩ (.int .u32 v.toNat)) g { x with magic := v } := Blk.set h 6 (.int .u32 v.toNat)
theorem LAt.moves {S : Nat → Prop} {w w' : World} {g : Nat} {x : Lcp} (h : LAt w g x) (hm : Moves S w w') (hs : ¬ S g) : LAt w' g x := Blk.moves h hm hs
theorem lat_row {W : World} {g : Nat} {x : Lcp} (h : LAt W g x) (y : Lcp) : LAt (W.setRow g (lv y).toArray) g y := Blk.setRow h (lv y)
set_option maxRecDepth 100000 in
/-- The end: the struct was laid over the named result's. -/
theorem bet_res {f : Func} {p g0 : Nat} (hf : f.results = #[.cell p 42]) (tmps : Array Value) {W : World} {z : Lcp} (y : Lcp) (h : LAt W g0 z) (hp : tmps.getD p undef = .pointer (some ⟨g0, 0, none⟩)) :
    (results f tmps).run Tryz.prog (W.setRow g0 (lv y).toArray) = .ok (.agg (lv y).toArray) (W.setRow g0 (lv y).toArray) := res_lcp hf tmps _ g0 y hp (lat_row h y) rfl (by kernel_rfl)
theorem bet_q {w W : World} {g0 : Nat} (y : Lcp) (hB : Below w.heap.size w W) (hg : w.heap.size ≤ g0) : BetQ y w (.returned (.agg (lv y).toArray)) (W.setRow g0 (lv y).toArray) :=
  ⟨rfl, hB.trans ((moves_row W g0 _).below hB.size fun k e => by rw [e]; exact hg)⟩
set_option maxHeartbeats 1000000 in
set_option maxRecDepth 100000 in
theorem good_bet (v : Value) (x : Lcp) (w : World) : Calls Tryz.prog 171 #[v, .agg (lv x).toArray] w (BetQ x w) := by
  show Calls Tryz.prog 171 #[v, .agg #[Value.bool x.hm, .int .u16 x.mru.toNat, .bool x.ha, .int .u32 x.accm.toNat, .int .u8 x.auth.toNat, .bool x.hg, .int .u32 x.magic.toNat, .bool x.pfc, .bool x.acfc]] w (BetQ x w)
  obtain ⟨W, hW, HW⟩ := boxL2 w x
  have HL := Lib.hid HW.out.1
  have HZ := Lib.hid HW.out.2.1
  have HB := Lib.hid HW.out.2.2
  have HN := Lib.hid (lcp_size x)
  go_enter Tryz.func171, Tryz.ntmps171
  go_wp2_with (first
    | (refine wpList_load_row rfl 42 _ rfl w.heap.size rfl 42 (lv x).toArray (0, 0) _ HL.out Tryz.underlying42 rfl HN.out ?_)
    | (refine wpList_store_row rfl 42 _ _ rfl (w.heap.size + 1) (lv x).toArray rfl rfl 42 _ HZ.out HN.out rfl (lv_one x) ?_))
  (try simp only [Exit.inBlock, Exit.then])
  refine bodyPost_ret (bet_res rfl _ x HZ.out rfl) rfl ?_
  exact bet_q x HB.out (Nat.le_succ _)

set_option maxHeartbeats 1000000 in
set_option maxRecDepth 100000 in
theorem bet_mru (v : Value) (p : Po) (x : Lcp) (w : World) : Calls Tryz.prog 168 #[v, .agg (lv x).toArray] w (BetQ (bet p 1 x) w) := by
  show Calls Tryz.prog 168 #[v, .agg #[Value.bool x.hm, .int .u16 x.mru.toNat, .bool x.ha, .int .u32 x.accm.toNat, .int .u8 x.auth.toNat, .bool x.hg, .int .u32 x.magic.toNat, .bool x.pfc, .bool x.acfc]] w (BetQ { x with mru := if x.mru < 64 then 64 else x.mru } w)
  obtain ⟨r, hr⟩ : ∃ r : UInt16, (if x.mru < 64 then 64 else x.mru) = r := ⟨_, rfl⟩
  rw [hr]
  obtain ⟨y, hy⟩ : ∃ y : Lcp, { x with mru := r } = y := ⟨_, rfl⟩
  rw [hy]
  have HN := Lib.hid (lcp_size y)
  obtain ⟨W, hW, HW⟩ := boxL2 w x
  have HL := Lib.hid HW.out.1
  have HZ := Lib.hid HW.out.2.1
  have HB := Lib.hid HW.out.2.2
  have c1 : W.cell? ⟨w.heap.size, 1, none⟩ = some (.int .u16 x.mru.toNat) := HL.out.c 1
  have f1 := HL.out.f 1
  have HLY := Lib.hid (LAt.setMru HL.out r)
  have HZY : Hid (LAt (W.setCell ⟨w.heap.size, 1, none⟩ (.int .u16 r.toNat)) (w.heap.size + 1) lz) := LAt.moves HZ.out (set_moves _ _ _ _) (by omega)
  have HBY : Hid (Below w.heap.size w (W.setCell ⟨w.heap.size, 1, none⟩ (.int .u16 r.toNat))) := HB.out.trans ((set_moves _ _ _ _).below HB.out.size (fun k e => by omega))
  rw [hy] at HLY
  clear hy
  by_cases hlt : x.mru < 64
  · rw [if_pos hlt] at hr
    subst hr
    have h1 : x.mru.toNat < 64 := UInt16.lt_iff_toNat_lt.1 hlt
    have h2 : (x.mru.toNat : Int) < 64 := by omega
    have h3 := decide_eq_true h2
    rw [show (64 : UInt16).toNat = 64 from rfl] at HLY HZY HBY
    clear h1 hlt
    go_enter Tryz.func168, Tryz.ntmps168
    go_wp2_with (first
    | (refine wpList_load_row rfl 42 _ rfl w.heap.size rfl 42 (lv y).toArray (0, 0) _ HLY.out Tryz.underlying42 rfl HN.out ?_)
    | (refine wpList_store_row rfl 42 _ _ rfl (w.heap.size + 1) (lv y).toArray rfl rfl 42 _ HZY.out HN.out rfl (lv_one _) ?_))
    (try simp only [Exit.inBlock, Exit.then])
    refine bodyPost_ret (bet_res rfl _ y HZY.out rfl) rfl ?_
    exact bet_q y HBY.out (Nat.le_succ _)
  · rw [if_neg hlt] at hr
    by_cases he : x.mru = 64
    · rw [he] at c1
      rw [he] at hr
      subst hr
      rw [show (64 : UInt16).toNat = 64 from rfl] at HLY HZY HBY c1
      clear he hlt
      go_enter Tryz.func168, Tryz.ntmps168
      go_wp2_with (first
    | (refine wpList_load_row rfl 42 _ rfl w.heap.size rfl 42 (lv y).toArray (0, 0) _ HLY.out Tryz.underlying42 rfl HN.out ?_)
    | (refine wpList_store_row rfl 42 _ _ rfl (w.heap.size + 1) (lv y).toArray rfl rfl 42 _ HZY.out HN.out rfl (lv_one _) ?_))
      (try simp only [Exit.inBlock, Exit.then])
      refine bodyPost_ret (bet_res rfl _ y HZY.out rfl) rfl ?_
      exact bet_q y HBY.out (Nat.le_succ _)
    · have h1 : 64 < x.mru.toNat := by
        rcases Nat.lt_trichotomy x.mru.toNat 64 with h | h | h
        · exact absurd (UInt16.lt_iff_toNat_lt.2 h) hlt
        · exact absurd (UInt16.toNat_inj.1 h) he
        · exact h
      have h2 : (64 : Int) < (x.mru.toNat : Int) := by omega
      have h3 := decide_eq_true h2
      have h5 : decide ((x.mru.toNat : Int) < 64) = false := decide_eq_false (by omega)
      rw [← hr] at HLY HZY HBY
      clear h1 hlt he hr
      generalize x.mru.toNat = m at *
      go_enter Tryz.func168, Tryz.ntmps168
      go_wp2_with (first
    | (refine wpList_load_row rfl 42 _ rfl w.heap.size rfl 42 (lv y).toArray (0, 0) _ HLY.out Tryz.underlying42 rfl HN.out ?_)
    | (refine wpList_store_row rfl 42 _ _ rfl (w.heap.size + 1) (lv y).toArray rfl rfl 42 _ HZY.out HN.out rfl (lv_one _) ?_))
      (try simp only [Exit.inBlock, Exit.then])
      refine bodyPost_ret (bet_res rfl _ y HZY.out rfl) rfl ?_
      exact bet_q y HBY.out (Nat.le_succ _)
end Go.Proofs.YtikcgcgbcolndaaGreat.Pol

/- Contracts of betterAuth and betterMagic. -/
namespace Go.Proofs.YtikcgcgbcolndaaGreat.Pol
open Go.RowKit Go.Proofs.YtikcgcgbcolndaaGreat.Oct Go.Proofs.YtikcgcgbcolndaaGreat.Row Go.Proofs.YtikcgcgbcolndaaGreat.Mem Go.Proofs.YtikcgcgbcolndaaGreat.Opt Go.Proofs.YtikcgcgbcolndaaGreat.Lco

theorem u8_bits (a b : UInt8) : (bits .and .u8 (a.toNat : Int) (b.toNat : Int) != 0) = (a &&& b != 0) := by
  rw [u8_and_nat _ _ a.toNat_lt b.toNat_lt, ← UInt8.toNat_and]
  generalize a &&& b = q
  rw [Bool.eq_iff_iff, bne_iff_ne, bne_iff_ne]
  exact ⟨fun h e => h (by rw [e]; rfl), fun h e => h (UInt8.toNat_inj.1 (by show q.toNat = 0; omega))⟩

set_option maxHeartbeats 2000000 in
set_option maxRecDepth 100000 in
theorem bet_auth (g : Nat) (p : Po) (x : Lcp) (w : World) (h : PAt w g p) : Calls Tryz.prog 174 #[.pointer (some ⟨g, 0, none⟩), .agg (lv x).toArray] w (BetQ (bet p 3 x) w) := by
  show Calls Tryz.prog 174 #[.pointer (some ⟨g, 0, none⟩), .agg #[Value.bool x.hm, .int .u16 x.mru.toNat, .bool x.ha, .int .u32 x.accm.toNat, .int .u8 x.auth.toNat, .bool x.hg, .int .u32 x.magic.toNat, .bool x.pfc, .bool x.acfc]] w (BetQ { x with auth := if p.c.can &&& x.auth != 0 then x.auth else if p.c.can &&& 2 != 0 then 2 else 1 } w)
  obtain ⟨r, hr⟩ : ∃ r : UInt8, (if p.c.can &&& x.auth != 0 then x.auth else if p.c.can &&& 2 != 0 then 2 else 1) = r := ⟨_, rfl⟩
  rw [hr]
  obtain ⟨y, hy⟩ : ∃ y : Lcp, { x with auth := r } = y := ⟨_, rfl⟩
  rw [hy]
  have HN := Lib.hid (lcp_size y)
  obtain ⟨W, hW, HW⟩ := boxL2 w x
  have HL := Lib.hid HW.out.1
  have HZ := Lib.hid HW.out.2.1
  have HB := Lib.hid HW.out.2.2
  have hP : PAt W g p := h.callee HB.out
  have p14 : W.cell? ⟨g, 14, none⟩ = some (.int .u8 p.c.can.toNat) := hP.c 14
  have c4 : W.cell? ⟨w.heap.size, 4, none⟩ = some (.int .u8 x.auth.toNat) := HL.out.c 4
  have f4 := HL.out.f 4
  have HLY := Lib.hid (LAt.setAuth HL.out r)
  have HZY : Hid (LAt (W.setCell ⟨w.heap.size, 4, none⟩ (.int .u8 r.toNat)) (w.heap.size + 1) lz) := LAt.moves HZ.out (set_moves _ _ _ _) (by omega)
  have HBY : Hid (Below w.heap.size w (W.setCell ⟨w.heap.size, 4, none⟩ (.int .u8 r.toNat))) := HB.out.trans ((set_moves _ _ _ _).below HB.out.size (fun k e => by omega))
  have u1 := u8_bits p.c.can x.auth
  have u2 := u8_bits p.c.can 2
  rw [show (((2 : UInt8).toNat : Nat) : Int) = 2 from rfl] at u2
  rw [hy] at HLY
  clear h hP
  cases h1 : (p.c.can &&& x.auth != 0)
  · rw [h1] at hr u1
    cases h2 : (p.c.can &&& 2 != 0)
    · rw [h2] at hr u2
      simp only [Bool.false_eq_true, if_false] at hr
      subst hr
      rw [show (1 : UInt8).toNat = 1 from rfl] at HLY HZY HBY
      clear h1 h2 hy
      go_enter Tryz.func174, Tryz.ntmps174
      go_wp2_with (first
    | (refine wpList_load_row rfl 42 _ rfl w.heap.size rfl 42 (lv y).toArray (0, 0) _ HLY.out Tryz.underlying42 rfl HN.out ?_)
    | (refine wpList_store_row rfl 42 _ _ rfl (w.heap.size + 1) (lv y).toArray rfl rfl 42 _ HZY.out HN.out rfl (lv_one _) ?_))
      (try simp only [Exit.inBlock, Exit.then])
      refine bodyPost_ret (bet_res rfl _ y HZY.out rfl) rfl ?_
      exact bet_q y HBY.out (Nat.le_succ _)
    · rw [h2] at hr u2
      simp only [Bool.false_eq_true, if_false, if_true] at hr
      subst hr
      rw [show (2 : UInt8).toNat = 2 from rfl] at HLY HZY HBY
      clear h1 h2 hy
      go_enter Tryz.func174, Tryz.ntmps174
      go_wp2_with (first
    | (refine wpList_load_row rfl 42 _ rfl w.heap.size rfl 42 (lv y).toArray (0, 0) _ HLY.out Tryz.underlying42 rfl HN.out ?_)
    | (refine wpList_store_row rfl 42 _ _ rfl (w.heap.size + 1) (lv y).toArray rfl rfl 42 _ HZY.out HN.out rfl (lv_one _) ?_))
      (try simp only [Exit.inBlock, Exit.then])
      refine bodyPost_ret (bet_res rfl _ y HZY.out rfl) rfl ?_
      exact bet_q y HBY.out (Nat.le_succ _)
  · rw [h1] at hr u1
    simp only [if_true] at hr
    subst hr
    have HLX : Hid (LAt W w.heap.size y) := by show LAt _ _ _; rw [← hy]; exact HL.out
    clear h1 hy HLY HZY HBY
    go_enter Tryz.func174, Tryz.ntmps174
    go_wp2_with (first
    | (refine wpList_load_row rfl 42 _ rfl w.heap.size rfl 42 (lv y).toArray (0, 0) _ HLX.out Tryz.underlying42 rfl HN.out ?_)
    | (refine wpList_store_row rfl 42 _ _ rfl (w.heap.size + 1) (lv y).toArray rfl rfl 42 _ HZ.out HN.out rfl (lv_one _) ?_))
    (try simp only [Exit.inBlock, Exit.then])
    refine bodyPost_ret (bet_res rfl _ y HZ.out rfl) rfl ?_
    exact bet_q y HB.out (Nat.le_succ _)
end Go.Proofs.YtikcgcgbcolndaaGreat.Pol

/- Contract of betterMagic. -/
namespace Go.Proofs.YtikcgcgbcolndaaGreat.Pol
open Go.RowKit Go.Proofs.YtikcgcgbcolndaaGreat.Oct Go.Proofs.YtikcgcgbcolndaaGreat.Row Go.Proofs.YtikcgcgbcolndaaGreat.Mem Go.Proofs.YtikcgcgbcolndaaGreat.Opt Go.Proofs.YtikcgcgbcolndaaGreat.Lco

theorem u32_zero (v : UInt32) : ((v.toNat : Int) != 0) = (v != 0) := by
  rw [Bool.eq_iff_iff, bne_iff_ne, bne_iff_ne]
  exact ⟨fun h e => h (by rw [e]; rfl), fun h e => h (UInt32.toNat_inj.1 (by show v.toNat = 0; omega))⟩
theorem u32_not (v : UInt32) : bits .xor .u32 IntKind.u32.max (v.toNat : Int) = ((~~~ v).toNat : Int) := by
  have e : ~~~ v = 4294967295 ^^^ v := by
    apply UInt32.eq_of_toBitVec_eq
    exact (BitVec.allOnes_xor (x := v.toBitVec)).symm
  rw [e, UInt32.toNat_xor]
  exact u32_xor_nat 4294967295 v.toNat (by decide) v.toNat_lt
/-- The argument's block, the named result's, and the policy. -/
structure Mg (w W : World) (g : Nat) (p : Po) (x : Lcp) : Prop where
  a : LAt W w.heap.size x
  z : LAt W (w.heap.size + 1) lz
  p : PAt W g p
  b : Below w.heap.size w W
theorem Mg.callee {w W W' : World} {g : Nat} {p : Po} {x : Lcp} (h : Mg w W g p x) (hb : Below W.heap.size W W') : Mg w W' g p x :=
  ⟨h.a.callee hb, h.z.callee hb, h.p.callee hb, h.b.trans (hb.mono h.b.size)⟩
theorem Mg.set {w W : World} {g : Nat} {p : Po} {x : Lcp} (h : Mg w W g p x) (v : UInt32) (hg : g < w.heap.size) : Mg w (W.setCell ⟨w.heap.size, 6, none⟩ (.int .u32 v.toNat)) g p { x with magic := v } :=
  ⟨LAt.setMagic h.a v, LAt.moves h.z (set_moves _ _ _ _) (by omega), h.p.moves (set_moves _ _ _ _) (by omega), h.b.trans ((set_moves _ _ _ _).below h.b.size (fun k e => by omega))⟩
theorem cells8 {W : World} {g : Nat} {x : Lcp} (h : LAt W g x) : W.cell? ⟨g, 0, none⟩ = some (Value.bool x.hm) ∧ W.cell? ⟨g, 1, none⟩ = some (.int .u16 x.mru.toNat) ∧ W.cell? ⟨g, 2, none⟩ = some (.bool x.ha) ∧ W.cell? ⟨g, 3, none⟩ = some (.int .u32 x.accm.toNat) ∧ W.cell? ⟨g, 4, none⟩ = some (.int .u8 x.auth.toNat) ∧ W.cell? ⟨g, 5, none⟩ = some (.bool x.hg) ∧ W.cell? ⟨g, 7, none⟩ = some (.bool x.pfc) ∧ W.cell? ⟨g, 8, none⟩ = some (.bool x.acfc) := ⟨h.c 0, h.c 1, h.c 2, h.c 3, h.c 4, h.c 5, h.c 7, h.c 8⟩
set_option maxHeartbeats 4000000 in
set_option maxRecDepth 100000 in
theorem bet_magic (g : Nat) (p : Po) (x : Lcp) (w : World) (h : PAt w g p) : Calls Tryz.prog 177 #[.pointer (some ⟨g, 0, none⟩), .agg (lv x).toArray] w (BetQ (bet p 5 x) w) := by
  show Calls Tryz.prog 177 #[.pointer (some ⟨g, 0, none⟩), .agg #[Value.bool x.hm, .int .u16 x.mru.toNat, .bool x.ha, .int .u32 x.accm.toNat, .int .u8 x.auth.toNat, .bool x.hg, .int .u32 x.magic.toNat, .bool x.pfc, .bool x.acfc]] w (BetQ (if x.magic != 0 && !isOwn p.w x then x else if isOwn p.w { x with magic := nz (~~~ x.magic) } then { x with magic := 1 } else { x with magic := nz (~~~ x.magic) }) w)
  have hgl := h.lt
  obtain ⟨W, hW, HW⟩ := boxL2 w x
  have HM : Hid (Mg w W g p x) := ⟨HW.out.1, HW.out.2.1, h.callee HW.out.2.2, HW.out.2.2⟩
  have c6 : W.cell? ⟨w.heap.size, 6, none⟩ = some (.int .u32 x.magic.toNat) := HM.out.a.c 6
  have f6 := HM.out.a.f 6
  have hz := u32_zero x.magic
  have hn := u32_not x.magic
  have HNZ : Hid (∀ w, Calls Tryz.prog 62 #[.int .u32 (~~~ x.magic).toNat] w fun e w' => e = .returned (.int .u32 (nz (~~~ x.magic)).toNat) ∧ w = w') := fun w => nz_any _ w
  obtain ⟨m, hm⟩ : ∃ m, nz (~~~ x.magic) = m := ⟨_, rfl⟩
  rw [hm] at HNZ ⊢
  rw [show (((~~~ x.magic).toNat : Nat) : Int) = bits .xor .u32 IntKind.u32.max (x.magic.toNat : Int) from hn.symm] at HNZ
  obtain ⟨y, hy⟩ : ∃ y, (if x.magic != 0 && !isOwn p.w x then x else if isOwn p.w { x with magic := m } then { x with magic := 1 } else { x with magic := m }) = y := ⟨_, rfl⟩
  rw [hy]
  have HY := Lib.hid hy.symm
  have HO := Lib.hid (own_any g p x)
  clear h HW hn hm hy
  cases h1 : (x.magic != 0)
  · rw [h1] at hz HY
    simp only [Bool.false_and, Bool.false_eq_true, if_false] at HY
    have HS := Lib.hid (HM.out.set m hgl)
    have s6 := HS.out.a.f 6
    clear h1
    go_enter Tryz.func177, Tryz.ntmps177
    go_wp2_with fail
    refine (HNZ.out _).mono ?_
    rintro e _ ⟨rfl, rfl⟩
    go_wp2_with (first
            | (refine wpList_load_row rfl 42 _ rfl w.heap.size rfl 42 (lv { x with magic := m }).toArray (0, 0) _ HS.out.a Tryz.underlying42 rfl (lcp_size _) ?_))
    refine (own_any g p { x with magic := m } _ HS.out.p).mono ?_
    rintro e w2 ⟨rfl, hb2⟩
    have H2 := Lib.hid (HS.out.callee hb2)
    clear hb2
    cases h2 : isOwn p.w { x with magic := m }
    · rw [h2] at HY
      have hy : y = { x with magic := m } := HY.out
      subst hy
      go_wp2_with (first
            | (refine wpList_load_row rfl 42 _ rfl w.heap.size rfl 42 (lv { x with magic := m }).toArray (0, 0) _ H2.out.a Tryz.underlying42 rfl (lcp_size _) ?_)
            | (refine wpList_store_row rfl 42 _ _ rfl (w.heap.size + 1) (lv { x with magic := m }).toArray rfl rfl 42 _ H2.out.z (lcp_size _) rfl (lv_one _) ?_))
      (try simp only [Exit.inBlock, Exit.then])
      refine bodyPost_ret (bet_res rfl _ _ H2.out.z rfl) rfl ?_
      exact bet_q _ H2.out.b (Nat.le_succ _)
    · rw [h2] at HY
      have hy : y = { x with magic := 1 } := HY.out
      subst hy
      have f6' := H2.out.a.f 6
      have H3 : Hid (Mg w (w2.setCell ⟨w.heap.size, 6, none⟩ (.int .u32 1)) g p { x with magic := 1 }) := H2.out.set 1 hgl
      have c6' : w2.cell? ⟨w.heap.size, 6, none⟩ = some (.int .u32 m.toNat) := H2.out.a.c 6
      go_wp2_with (first
            | (refine wpList_load_row rfl 42 _ rfl w.heap.size rfl 42 (lv { x with magic := 1 }).toArray (0, 0) _ H3.out.a Tryz.underlying42 rfl (lcp_size _) ?_)
            | (refine wpList_store_row rfl 42 _ _ rfl (w.heap.size + 1) (lv { x with magic := 1 }).toArray rfl rfl 42 _ H3.out.z (lcp_size _) rfl (lv_one _) ?_))
      (try simp only [Exit.inBlock, Exit.then])
      refine bodyPost_ret (bet_res rfl _ _ H3.out.z rfl) rfl ?_
      exact bet_q _ H3.out.b (Nat.le_succ _)
  · rw [h1] at hz HY
    obtain ⟨d0, d1, d2, d3, d4, d5, d7, d8⟩ := cells8 HM.out.a
    go_enter Tryz.func177, Tryz.ntmps177
    go_wp2_with fail
    refine (HO.out W HM.out.p).mono ?_
    rintro e w1 ⟨rfl, hb1⟩
    have H1 := Lib.hid (HM.out.callee hb1)
    clear hb1 hW HM c6 f6 d0 d1 d2 d3 d4 d5 d7 d8
    cases h3 : isOwn p.w x
    · rw [h3] at HY
      have hy : y = x := HY.out
      subst hy
      go_wp2_with (first
        | (refine wpList_load_row rfl 42 _ rfl w.heap.size rfl 42 (lv y).toArray (0, 0) _ H1.out.a Tryz.underlying42 rfl (lcp_size _) ?_)
        | (refine wpList_store_row rfl 42 _ _ rfl (w.heap.size + 1) (lv y).toArray rfl rfl 42 _ H1.out.z (lcp_size _) rfl (lv_one _) ?_))
      (try simp only [Exit.inBlock, Exit.then])
      refine bodyPost_ret (bet_res rfl _ _ H1.out.z rfl) rfl ?_
      exact bet_q _ H1.out.b (Nat.le_succ _)
    · rw [h3] at HY
      simp only [Bool.not_true, Bool.and_false, Bool.false_eq_true, if_false] at HY
      have c6 : w1.cell? ⟨w.heap.size, 6, none⟩ = some (.int .u32 x.magic.toNat) := H1.out.a.c 6
      have f6 := H1.out.a.f 6
      have HS := Lib.hid (H1.out.set m hgl)
      have s6 := HS.out.a.f 6
      clear h1 h3
      go_wp2_with fail
      refine (HNZ.out _).mono ?_
      rintro e _ ⟨rfl, rfl⟩
      go_wp2_with (first
              | (refine wpList_load_row rfl 42 _ rfl w.heap.size rfl 42 (lv { x with magic := m }).toArray (0, 0) _ HS.out.a Tryz.underlying42 rfl (lcp_size _) ?_))
      refine (own_any g p { x with magic := m } _ HS.out.p).mono ?_
      rintro e w2 ⟨rfl, hb2⟩
      have H2 := Lib.hid (HS.out.callee hb2)
      clear hb2
      cases h2 : isOwn p.w { x with magic := m }
      · rw [h2] at HY
        have hy : y = { x with magic := m } := HY.out
        subst hy
        go_wp2_with (first
              | (refine wpList_load_row rfl 42 _ rfl w.heap.size rfl 42 (lv { x with magic := m }).toArray (0, 0) _ H2.out.a Tryz.underlying42 rfl (lcp_size _) ?_)
              | (refine wpList_store_row rfl 42 _ _ rfl (w.heap.size + 1) (lv { x with magic := m }).toArray rfl rfl 42 _ H2.out.z (lcp_size _) rfl (lv_one _) ?_))
        (try simp only [Exit.inBlock, Exit.then])
        refine bodyPost_ret (bet_res rfl _ _ H2.out.z rfl) rfl ?_
        exact bet_q _ H2.out.b (Nat.le_succ _)
      · rw [h2] at HY
        have hy : y = { x with magic := 1 } := HY.out
        subst hy
        have f6' := H2.out.a.f 6
        have H3 : Hid (Mg w (w2.setCell ⟨w.heap.size, 6, none⟩ (.int .u32 1)) g p { x with magic := 1 }) := H2.out.set 1 hgl
        have c6' : w2.cell? ⟨w.heap.size, 6, none⟩ = some (.int .u32 m.toNat) := H2.out.a.c 6
        go_wp2_with (first
              | (refine wpList_load_row rfl 42 _ rfl w.heap.size rfl 42 (lv { x with magic := 1 }).toArray (0, 0) _ H3.out.a Tryz.underlying42 rfl (lcp_size _) ?_)
              | (refine wpList_store_row rfl 42 _ _ rfl (w.heap.size + 1) (lv { x with magic := 1 }).toArray rfl rfl 42 _ H3.out.z (lcp_size _) rfl (lv_one _) ?_))
        (try simp only [Exit.inBlock, Exit.then])
        refine bodyPost_ret (bet_res rfl _ _ H3.out.z rfl) rfl ?_
        exact bet_q _ H3.out.b (Nat.le_succ _)
end Go.Proofs.YtikcgcgbcolndaaGreat.Pol

/- Contracts of made, takesFit, valid, New. -/
namespace Go.Proofs.YtikcgcgbcolndaaGreat.Pol
open Go.RowKit Go.Proofs.YtikcgcgbcolndaaGreat.Oct Go.Proofs.YtikcgcgbcolndaaGreat.Row Go.Proofs.YtikcgcgbcolndaaGreat.Mem Go.Proofs.YtikcgcgbcolndaaGreat.Opt Go.Proofs.YtikcgcgbcolndaaGreat.Lco

def zc : Conf := ⟨0, false, 0, 0, 0, 0, false, false, false, 0⟩
def zp : Po := ⟨lz, zc, lz, lz, 0, 0, false⟩
/-- A configuration in a block. -/
def CAt (w : World) (g : Nat) (c : Conf) : Prop := Blk w g (cv c) 25
theorem CAt.all {w : World} {g : Nat} {c : Conf} (h : CAt w g c) : w.cell? ⟨g, 0, none⟩ = some (.int .u16 c.mru.toNat) ∧ w.cell? ⟨g, 1, none⟩ = some (.bool c.ha) ∧ w.cell? ⟨g, 2, none⟩ = some (.int .u32 c.accm.toNat) ∧ w.cell? ⟨g, 3, none⟩ = some (.int .u8 c.auth.toNat) ∧ w.cell? ⟨g, 4, none⟩ = some (.int .u8 c.takes.toNat) ∧ w.cell? ⟨g, 5, none⟩ = some (.int .u8 c.can.toNat) ∧ w.cell? ⟨g, 6, none⟩ = some (.bool c.mg) ∧ w.cell? ⟨g, 7, none⟩ = some (.bool c.pfc) ∧ w.cell? ⟨g, 8, none⟩ = some (.bool c.acfc) ∧ w.cell? ⟨g, 9, none⟩ = some (.int .i64 c.mn) := ⟨Blk.at_ h 0, Blk.at_ h 1, Blk.at_ h 2, Blk.at_ h 3, Blk.at_ h 4, Blk.at_ h 5, Blk.at_ h 6, Blk.at_ h 7, Blk.at_ h 8, Blk.at_ h 9⟩
theorem CAt.callee {w w' : World} {g : Nat} {c : Conf} (h : CAt w g c) (hb : Below w.heap.size w w') : CAt w' g c := Blk.callee h hb
theorem cat_new (w : World) (c : Conf) : CAt (w.alloc (.cells (cv c).toArray 25)) w.heap.size c := blk_new w (cv c) _
theorem boxC (w : World) (c : Conf) : ∃ W, w.alloc (.cells #[Value.int .u16 c.mru.toNat, .bool c.ha, .int .u32 c.accm.toNat, .int .u8 c.auth.toNat, .int .u8 c.takes.toNat, .int .u8 c.can.toNat, .bool c.mg, .bool c.pfc, .bool c.acfc, .int .i64 c.mn] 25) = W ∧ Hid (CAt W w.heap.size c ∧ Below w.heap.size w W ∧ W.heap.size = w.heap.size + 1) :=
  ⟨_, rfl, cat_new w c, (Below.refl w.heap.size w).alloc (Nat.le_refl _) _, by simp⟩
set_option maxRecDepth 100000 in
theorem pol_size (p : Po) : (Tryz.prog.info? 95).map (·.size) = some (pv p).toArray.size := by
  rw [List.size_toArray]
  kernel_rfl
theorem lv_ones (x : Lcp) : ∀ v ∈ lv x, v.oneCell' = true := by
  intro v hv
  unfold lv at hv
  simp only [List.mem_cons, List.not_mem_nil, or_false] at hv
  rcases hv with rfl | rfl | rfl | rfl | rfl | rfl | rfl | rfl | rfl <;> rfl
theorem cv_ones (c : Conf) : ∀ v ∈ cv c, v.oneCell' = true := by
  intro v hv
  unfold cv at hv
  simp only [List.mem_cons, List.not_mem_nil, or_false] at hv
  rcases hv with rfl | rfl | rfl | rfl | rfl | rfl | rfl | rfl | rfl | rfl <;> rfl
theorem pv_one (p : Po) : (pv p).toArray.all (·.oneCell') = true := by
  refine all_oneCell_toArray fun v hv => ?_
  unfold pv at hv
  simp only [List.mem_append] at hv
  rcases hv with h | h | h | h | h
  · exact lv_ones _ v h
  · exact cv_ones _ v h
  · exact lv_ones _ v h
  · exact lv_ones _ v h
  · simp only [List.mem_cons, List.not_mem_nil, or_false] at h
    rcases h with rfl | rfl | rfl <;> rfl
theorem pat_new (w : World) (p : Po) : PAt (w.alloc (.cells (pv p).toArray 95)) w.heap.size p := blk_new w (pv p) _
theorem pat_row {W : World} {g : Nat} {p : Po} (h : PAt W g p) (q : Po) : PAt (W.setRow g (pv q).toArray) g q := Blk.setRow h (pv q)
/-- A named result that is a policy. -/
theorem pol_end {f : Func} {r : Nat} (hf : f.results = #[.cell r 95]) (tmps : Array Value) {W : World} {g : Nat} (p : Po) (h : PAt W g p) (hp : tmps.getD r undef = .pointer (some ⟨g, 0, none⟩)) :
    (results f tmps).run Tryz.prog W = .ok (.agg (pv p).toArray) W := results_cell_row hf tmps W g _ _ _ _ hp h Tryz.underlying95 rfl (pol_size p)
theorem boxCP (w : World) (c : Conf) : ∃ W, (w.alloc (.cells #[Value.int .u16 c.mru.toNat, .bool c.ha, .int .u32 c.accm.toNat, .int .u8 c.auth.toNat, .int .u8 c.takes.toNat, .int .u8 c.can.toNat, .bool c.mg, .bool c.pfc, .bool c.acfc, .int .i64 c.mn] 25)).alloc (.cells #[Value.bool false, .int .u16 0, .bool false, .int .u32 0, .int .u8 0, .bool false, .int .u32 0, .bool false, .bool false, .int .u16 0, .bool false, .int .u32 0, .int .u8 0, .int .u8 0, .int .u8 0, .bool false, .bool false, .bool false, .int .i64 0, .bool false, .int .u16 0, .bool false, .int .u32 0, .int .u8 0, .bool false, .int .u32 0, .bool false, .bool false, .bool false, .int .u16 0, .bool false, .int .u32 0, .int .u8 0, .bool false, .int .u32 0, .bool false, .bool false, .int .i64 0, .int .i64 0, .bool false] 95) = W ∧ Hid (CAt W w.heap.size c ∧ PAt W (w.heap.size + 1) zp ∧ Below w.heap.size w W ∧ W.heap.size = w.heap.size + 1 + 1) :=
  ⟨_, rfl, Blk.alloc (cat_new w c) _, by have := pat_new (w.alloc (.cells (cv c).toArray 25)) zp; rw [World.size_alloc] at this; exact this, ((Below.refl w.heap.size w).alloc (Nat.le_refl _) _).alloc (by simp) _, by simp⟩
theorem u16_ne0 (v : UInt16) : ((v.toNat : Int) != 0) = (v != 0) := by
  rw [Bool.eq_iff_iff, bne_iff_ne, bne_iff_ne]
  exact ⟨fun h e => h (by rw [e]; rfl), fun h e => h (UInt16.toNat_inj.1 (by show v.toNat = 0; omega))⟩
/-- The wishes in a block. -/
def WAt (w : World) (g : Nat) (x : Lcp) : Prop := Blk w g (lv x) 93
theorem wat_new (w : World) (x : Lcp) : WAt (w.alloc (.cells (lv x).toArray 93)) w.heap.size x := blk_new w (lv x) _
set_option maxRecDepth 100000 in
theorem wish_size (x : Lcp) : (Tryz.prog.info? 93).map (·.size) = some (lv x).toArray.size := by
  rw [List.size_toArray]
  kernel_rfl
set_option maxRecDepth 100000 in
theorem conf_size (c : Conf) : (Tryz.prog.info? 25).map (·.size) = some (cv c).toArray.size := by
  rw [List.size_toArray]
  kernel_rfl
theorem WAt.all {w : World} {g : Nat} {x : Lcp} (h : WAt w g x) : w.cell? ⟨g, 0, none⟩ = some (Value.bool x.hm) ∧ w.cell? ⟨g, 1, none⟩ = some (.int .u16 x.mru.toNat) ∧ w.cell? ⟨g, 2, none⟩ = some (.bool x.ha) ∧ w.cell? ⟨g, 3, none⟩ = some (.int .u32 x.accm.toNat) ∧ w.cell? ⟨g, 4, none⟩ = some (.int .u8 x.auth.toNat) ∧ w.cell? ⟨g, 5, none⟩ = some (.bool x.hg) ∧ w.cell? ⟨g, 6, none⟩ = some (.int .u32 x.magic.toNat) ∧ w.cell? ⟨g, 7, none⟩ = some (.bool x.pfc) ∧ w.cell? ⟨g, 8, none⟩ = some (.bool x.acfc) ∧ w.frozen? ⟨g, 5, none⟩ = false ∧ w.frozen? ⟨g, 6, none⟩ = false :=
  ⟨Blk.at_ h 0, Blk.at_ h 1, Blk.at_ h 2, Blk.at_ h 3, Blk.at_ h 4, Blk.at_ h 5, Blk.at_ h 6, Blk.at_ h 7, Blk.at_ h 8, Blk.frozen h 5, Blk.frozen h 6⟩
theorem boxW (W : World) (b : Bool) (c : Conf) : ∃ V, W.alloc (.cells #[Value.bool b, .int .u16 c.mru.toNat, .bool c.ha, .int .u32 c.accm.toNat, .int .u8 c.auth.toNat, .bool false, .int .u32 0, .bool c.pfc, .bool c.acfc] 93) = V ∧ Hid (WAt V W.heap.size ⟨b, c.mru, c.ha, c.accm, c.auth, false, 0, c.pfc, c.acfc⟩ ∧ Below W.heap.size W V) :=
  ⟨_, rfl, wat_new W ⟨b, c.mru, c.ha, c.accm, c.auth, false, 0, c.pfc, c.acfc⟩, (Below.refl _ _).alloc (Nat.le_refl _) _⟩
set_option maxHeartbeats 8000000 in
set_option maxRecDepth 100000 in
theorem made_any (c : Conf) (m : UInt32) (w : World) : Calls Tryz.prog 49 #[.agg #[Value.int .u16 c.mru.toNat, .bool c.ha, .int .u32 c.accm.toNat, .int .u8 c.auth.toNat, .int .u8 c.takes.toNat, .int .u8 c.can.toNat, .bool c.mg, .bool c.pfc, .bool c.acfc, .int .i64 c.mn], .int .u32 m.toNat] w fun e w' => e = .returned (.agg (pv (newP c m)).toArray) ∧ Below w.heap.size w w' := by
  obtain ⟨W, hW, HW⟩ := boxCP w c
  obtain ⟨c0, c1, c2, c3, c4, c5, c6, c7, c8, c9⟩ := HW.out.1.all
  have hx := u16_ne0 c.mru
  have HC := Lib.hid HW.out.1
  have HP := Lib.hid HW.out.2.1
  have HB := Lib.hid HW.out.2.2.1
  have HS := Lib.hid HW.out.2.2.2
  have HE : Hid (newP c m = ⟨⟨c.mru != 0, c.mru, c.ha, c.accm, c.auth, c.mg, if c.mg then nz m else 0, c.pfc, c.acfc⟩, c, lz, lz, 0, 0, false⟩) := rfl
  generalize hb : (c.mru != 0) = b at *
  clear hb
  obtain ⟨V, hV, HV⟩ := boxW W b c
  have HCV := Lib.hid (HC.out.callee HV.out.2)
  have HPV := Lib.hid (HP.out.callee HV.out.2)
  have HBV := Lib.hid (HB.out.trans (HV.out.2.mono HB.out.size))
  obtain ⟨d0, d1, d2, d3, d4, d5, d6, d7, d8, d9⟩ := HCV.out.all
  obtain ⟨x0, x1, x2, x3, x4, x5, x6, x7, x8, f5, f6⟩ := WAt.all HV.out.1
  have hgp : w.heap.size + 1 < W.heap.size := by have := HS.out; omega
  cases hm : c.mg
  · rw [hm] at c6 d6 hW
    have HF : Hid (newP c m = ⟨⟨b, c.mru, c.ha, c.accm, c.auth, false, 0, c.pfc, c.acfc⟩, c, lz, lz, 0, 0, false⟩) := by show _ = _; rw [HE.out, hm]; rfl
    have HN := Lib.hid (pol_size (newP c m))
    have HQ : Hid ((pv (newP c m)).toArray = #[Value.bool b, .int .u16 c.mru.toNat, .bool c.ha, .int .u32 c.accm.toNat, .int .u8 c.auth.toNat, .bool false, .int .u32 0, .bool c.pfc, .bool c.acfc, .int .u16 c.mru.toNat, .bool c.ha, .int .u32 c.accm.toNat, .int .u8 c.auth.toNat, .int .u8 c.takes.toNat, .int .u8 c.can.toNat, .bool false, .bool c.pfc, .bool c.acfc, .int .i64 c.mn, .bool false, .int .u16 0, .bool false, .int .u32 0, .int .u8 0, .bool false, .int .u32 0, .bool false, .bool false, .bool false, .int .u16 0, .bool false, .int .u32 0, .int .u8 0, .bool false, .int .u32 0, .bool false, .bool false, .int .i64 0, .int .i64 0, .bool false]) := by
      show _ = _
      rw [HF.out]
      unfold pv lv cv
      simp only [hm]
      rfl
    clear hm HE HF HC HP HB
    have x6 : V.cell? ⟨W.heap.size, 6, none⟩ = some (.int .u32 0) := x6
    go_enter Tryz.func49, Tryz.ntmps49
    go_wp2_with (refine wpList_store_row rfl 95 _ _ rfl (w.heap.size + 1) (pv (newP c m)).toArray rfl (by rw [HQ.out]; rfl) 95 _ HPV.out HN.out rfl (pv_one _) ?_)
    (try simp only [Exit.inBlock, Exit.then])
    refine bodyPost_ret (pol_end rfl _ (newP c m) (pat_row HPV.out (newP c m)) rfl) rfl ?_
    exact ⟨rfl, HBV.out.trans ((moves_row _ (w.heap.size + 1) _).below HBV.out.size (fun k e => by rw [e]; exact Nat.le_succ _))⟩
  · rw [hm] at c6 d6 hW
    have HF : Hid (newP c m = ⟨⟨b, c.mru, c.ha, c.accm, c.auth, true, nz m, c.pfc, c.acfc⟩, c, lz, lz, 0, 0, false⟩) := by show _ = _; rw [HE.out, hm]; rfl
    have HN := Lib.hid (pol_size (newP c m))
    have HQ : Hid ((pv (newP c m)).toArray = #[Value.bool b, .int .u16 c.mru.toNat, .bool c.ha, .int .u32 c.accm.toNat, .int .u8 c.auth.toNat, .bool true, .int .u32 (nz m).toNat, .bool c.pfc, .bool c.acfc, .int .u16 c.mru.toNat, .bool c.ha, .int .u32 c.accm.toNat, .int .u8 c.auth.toNat, .int .u8 c.takes.toNat, .int .u8 c.can.toNat, .bool true, .bool c.pfc, .bool c.acfc, .int .i64 c.mn, .bool false, .int .u16 0, .bool false, .int .u32 0, .int .u8 0, .bool false, .int .u32 0, .bool false, .bool false, .bool false, .int .u16 0, .bool false, .int .u32 0, .int .u8 0, .bool false, .int .u32 0, .bool false, .bool false, .int .i64 0, .int .i64 0, .bool false]) := by
      show _ = _
      rw [HF.out]
      unfold pv lv cv
      simp only [hm]
      rfl
    obtain ⟨V2, hV2⟩ : ∃ V2, (V.setCell ⟨W.heap.size, 5, none⟩ (.bool true)).setCell ⟨W.heap.size, 6, none⟩ (.int .u32 (nz m).toNat) = V2 := ⟨_, rfl⟩
    have hmv : Moves (fun k => k = W.heap.size) V V2 := by rw [← hV2]; exact (set_moves _ _ _ _).trans (set_moves _ _ _ _) (fun _ _ h => h)
    have HW2 : Hid (WAt V2 W.heap.size ⟨b, c.mru, c.ha, c.accm, c.auth, true, nz m, c.pfc, c.acfc⟩) := by show WAt _ _ _; rw [← hV2]; exact (Blk.set HV.out.1 5 (.bool true)).set 6 (.int .u32 (nz m).toNat)
    have HC2 : Hid (CAt V2 w.heap.size c) := Blk.moves HCV.out hmv (by omega)
    have HP2 : Hid (PAt V2 (w.heap.size + 1) zp) := HPV.out.moves hmv (by omega)
    have HB2 : Hid (Below w.heap.size w V2) := HBV.out.trans (hmv.below HBV.out.size (fun k e => by omega))
    obtain ⟨e0, e1, e2, e3, e4, e5, e6, e7, e8, e9⟩ := HC2.out.all
    obtain ⟨y0, y1, y2, y3, y4, y5, y6, y7, y8, _, _⟩ := WAt.all HW2.out
    rw [hm] at e6
    have HNZ := Lib.hid (fun w => nz_any m w)
    clear hm HE HF HC HP HB hmv
    have x6 : V.cell? ⟨W.heap.size, 6, none⟩ = some (.int .u32 0) := x6
    go_enter Tryz.func49, Tryz.ntmps49
    go_wp2_with fail
    refine (HNZ.out _).mono ?_
    rintro e _ ⟨rfl, rfl⟩
    go_wp2_with (refine wpList_store_row rfl 95 _ _ rfl (w.heap.size + 1) (pv (newP c m)).toArray rfl (by rw [HQ.out]; rfl) 95 _ HP2.out HN.out rfl (pv_one _) ?_)
    (try simp only [Exit.inBlock, Exit.then])
    refine bodyPost_ret (pol_end rfl _ (newP c m) (pat_row HP2.out (newP c m)) rfl) rfl ?_
    exact ⟨rfl, HB2.out.trans ((moves_row _ (w.heap.size + 1) _).below HB2.out.size (fun k e => by rw [e]; exact Nat.le_succ _))⟩
end Go.Proofs.YtikcgcgbcolndaaGreat.Pol

/- Contracts of takesFit, valid, New. -/
namespace Go.Proofs.YtikcgcgbcolndaaGreat.Pol
open Go.RowKit Go.Proofs.YtikcgcgbcolndaaGreat.Oct Go.Proofs.YtikcgcgbcolndaaGreat.Row Go.Proofs.YtikcgcgbcolndaaGreat.Mem Go.Proofs.YtikcgcgbcolndaaGreat.Opt Go.Proofs.YtikcgcgbcolndaaGreat.Lco

theorem u8_eq0 (v : UInt8) : ((v.toNat : Int) == 0) = (v == 0) := by
  rw [Bool.eq_iff_iff, beq_iff_eq, beq_iff_eq]
  exact ⟨fun h => UInt8.toNat_inj.1 (by show v.toNat = 0; omega), fun h => by rw [h]; rfl⟩
theorem u16_eq0 (v : UInt16) : ((v.toNat : Int) == 0) = (v == 0) := by
  rw [Bool.eq_iff_iff, beq_iff_eq, beq_iff_eq]
  exact ⟨fun h => UInt16.toNat_inj.1 (by show v.toNat = 0; omega), fun h => by rw [h]; rfl⟩
theorem u32_eq0 (v : UInt32) : ((v.toNat : Int) == 0) = (v == 0) := by
  rw [Bool.eq_iff_iff, beq_iff_eq, beq_iff_eq]
  exact ⟨fun h => UInt32.toNat_inj.1 (by show v.toNat = 0; omega), fun h => by rw [h]; rfl⟩
theorem u16_ge (v : UInt16) : decide ((64 : Int) ≤ (v.toNat : Int)) = decide (64 ≤ v) := by
  have h : 64 ≤ v ↔ 64 ≤ v.toNat := UInt16.le_iff_toNat_le
  rw [decide_eq_decide, h]; omega
theorem u8_le (v n : UInt8) (k : Int) (hk : k = (n.toNat : Int)) : decide ((v.toNat : Int) ≤ k) = decide (v ≤ n) := by
  have h : v ≤ n ↔ v.toNat ≤ n.toNat := UInt8.le_iff_toNat_le
  rw [decide_eq_decide, h, hk]; omega
set_option maxHeartbeats 1000000 in
set_option maxRecDepth 100000 in
theorem takesFit_any (a t : UInt8) (w : World) : Calls Tryz.prog 61 #[.int .u8 a.toNat, .int .u8 t.toNat] w fun e w' => e = .returned (.bool (fits a t)) ∧ w = w' := by
  have h0 := u8_eq0 a
  by_cases h : a = 0
  · have HE : Hid (fits a t = (t == 0)) := if_pos h
    have h1 := u8_eq0 t
    rw [show (a == 0) = true from by rw [h]; rfl] at h0
    clear h
    go_enter Tryz.func61, Tryz.ntmps61
    go_wp2
    go_ret
    exact ⟨by rw [HE.out, ← h1] <;> rfl, rfl⟩
  · have HE : Hid (fits a t = (t &&& a != 0)) := if_neg h
    have h1 := u8_bits t a
    rw [show (a == 0) = false from beq_eq_false_iff_ne.2 h] at h0
    clear h
    go_enter Tryz.func61, Tryz.ntmps61
    go_wp2
    go_ret
    exact ⟨by rw [HE.out, ← h1] <;> rfl, rfl⟩
set_option maxHeartbeats 8000000 in
set_option maxRecDepth 100000 in
theorem valid_any (c : Conf) (w : World) : Calls Tryz.prog 48 #[.agg #[Value.int .u16 c.mru.toNat, .bool c.ha, .int .u32 c.accm.toNat, .int .u8 c.auth.toNat, .int .u8 c.takes.toNat, .int .u8 c.can.toNat, .bool c.mg, .bool c.pfc, .bool c.acfc, .int .i64 c.mn]] w fun e w' => e = .returned (.bool (mayC c)) ∧ Below w.heap.size w w' := by
  obtain ⟨W, hW, HW⟩ := boxC w c
  obtain ⟨c0, c1, c2, c3, c4, c5, c6, c7, c8, c9⟩ := HW.out.1.all
  have HB := Lib.hid HW.out.2.1
  have HF := Lib.hid (fun w => takesFit_any c.auth c.takes w)
  have h1 := u16_eq0 c.mru
  have h2 := u16_ge c.mru
  have h4 := u32_eq0 c.accm
  have h5 := u8_le c.auth 2 2 rfl
  have h6 := u8_le c.takes 3 3 rfl
  have h7 := u8_le c.can 3 3 rfl
  obtain ⟨t8, h8⟩ : ∃ b, decide (1 ≤ c.mn) = b := ⟨_, rfl⟩
  obtain ⟨t9, h9⟩ : ∃ b, decide (c.mn ≤ 10) = b := ⟨_, rfl⟩
  have HV : Hid (mayC c = ((c.mru == 0 || decide (64 ≤ c.mru)) && (c.ha || c.accm == 0) && decide (c.auth ≤ 2) && decide (c.takes ≤ 3) && decide (c.can ≤ 3) && fits c.auth c.takes && t8 && t9)) := by show _ = _; rw [← h8, ← h9]; rfl
  generalize (c.mru == 0) = t1 at *
  generalize decide (64 ≤ c.mru) = t2 at *
  generalize c.ha = t3 at *
  generalize (c.accm == 0) = t4 at *
  generalize decide (c.auth ≤ 2) = t5 at *
  generalize decide (c.takes ≤ 3) = t6 at *
  generalize decide (c.can ≤ 3) = t7 at *
  generalize fits c.auth c.takes = f at *
  clear HW
  cases t1
  · cases t2
    · go_enter Tryz.func48, Tryz.ntmps48
      go_wp2
      go_ret
      exact ⟨by rw [HV.out] <;> rfl, HB.out⟩
    · cases t3
      · cases t4
        · go_enter Tryz.func48, Tryz.ntmps48
          go_wp2
          go_ret
          exact ⟨by rw [HV.out] <;> rfl, HB.out⟩
        · cases t5
          · go_enter Tryz.func48, Tryz.ntmps48
            go_wp2
            go_ret
            exact ⟨by rw [HV.out] <;> rfl, HB.out⟩
          · cases t6
            · go_enter Tryz.func48, Tryz.ntmps48
              go_wp2
              go_ret
              exact ⟨by rw [HV.out] <;> rfl, HB.out⟩
            · cases t7
              · go_enter Tryz.func48, Tryz.ntmps48
                go_wp2
                go_ret
                exact ⟨by rw [HV.out] <;> rfl, HB.out⟩
              · cases f
                · go_enter Tryz.func48, Tryz.ntmps48
                  go_wp2_with fail
                  refine (HF.out _).mono ?_
                  rintro e _ ⟨rfl, rfl⟩
                  go_wp2
                  go_ret
                  exact ⟨by rw [HV.out] <;> rfl, HB.out⟩
                · cases t8
                  · go_enter Tryz.func48, Tryz.ntmps48
                    go_wp2_with fail
                    refine (HF.out _).mono ?_
                    rintro e _ ⟨rfl, rfl⟩
                    go_wp2
                    go_ret
                    exact ⟨by rw [HV.out] <;> rfl, HB.out⟩
                  · cases t9
                    · go_enter Tryz.func48, Tryz.ntmps48
                      go_wp2_with fail
                      refine (HF.out _).mono ?_
                      rintro e _ ⟨rfl, rfl⟩
                      go_wp2
                      go_ret
                      exact ⟨by rw [HV.out] <;> rfl, HB.out⟩
                    · go_enter Tryz.func48, Tryz.ntmps48
                      go_wp2_with fail
                      refine (HF.out _).mono ?_
                      rintro e _ ⟨rfl, rfl⟩
                      go_wp2
                      go_ret
                      exact ⟨by rw [HV.out] <;> rfl, HB.out⟩
      · cases t5
        · go_enter Tryz.func48, Tryz.ntmps48
          go_wp2
          go_ret
          exact ⟨by rw [HV.out] <;> rfl, HB.out⟩
        · cases t6
          · go_enter Tryz.func48, Tryz.ntmps48
            go_wp2
            go_ret
            exact ⟨by rw [HV.out] <;> rfl, HB.out⟩
          · cases t7
            · go_enter Tryz.func48, Tryz.ntmps48
              go_wp2
              go_ret
              exact ⟨by rw [HV.out] <;> rfl, HB.out⟩
            · cases f
              · go_enter Tryz.func48, Tryz.ntmps48
                go_wp2_with fail
                refine (HF.out _).mono ?_
                rintro e _ ⟨rfl, rfl⟩
                go_wp2
                go_ret
                exact ⟨by rw [HV.out] <;> rfl, HB.out⟩
              · cases t8
                · go_enter Tryz.func48, Tryz.ntmps48
                  go_wp2_with fail
                  refine (HF.out _).mono ?_
                  rintro e _ ⟨rfl, rfl⟩
                  go_wp2
                  go_ret
                  exact ⟨by rw [HV.out] <;> rfl, HB.out⟩
                · cases t9
                  · go_enter Tryz.func48, Tryz.ntmps48
                    go_wp2_with fail
                    refine (HF.out _).mono ?_
                    rintro e _ ⟨rfl, rfl⟩
                    go_wp2
                    go_ret
                    exact ⟨by rw [HV.out] <;> rfl, HB.out⟩
                  · go_enter Tryz.func48, Tryz.ntmps48
                    go_wp2_with fail
                    refine (HF.out _).mono ?_
                    rintro e _ ⟨rfl, rfl⟩
                    go_wp2
                    go_ret
                    exact ⟨by rw [HV.out] <;> rfl, HB.out⟩
  · cases t3
    · cases t4
      · go_enter Tryz.func48, Tryz.ntmps48
        go_wp2
        go_ret
        exact ⟨by rw [HV.out] <;> rfl, HB.out⟩
      · cases t5
        · go_enter Tryz.func48, Tryz.ntmps48
          go_wp2
          go_ret
          exact ⟨by rw [HV.out] <;> rfl, HB.out⟩
        · cases t6
          · go_enter Tryz.func48, Tryz.ntmps48
            go_wp2
            go_ret
            exact ⟨by rw [HV.out] <;> rfl, HB.out⟩
          · cases t7
            · go_enter Tryz.func48, Tryz.ntmps48
              go_wp2
              go_ret
              exact ⟨by rw [HV.out] <;> rfl, HB.out⟩
            · cases f
              · go_enter Tryz.func48, Tryz.ntmps48
                go_wp2_with fail
                refine (HF.out _).mono ?_
                rintro e _ ⟨rfl, rfl⟩
                go_wp2
                go_ret
                exact ⟨by rw [HV.out] <;> rfl, HB.out⟩
              · cases t8
                · go_enter Tryz.func48, Tryz.ntmps48
                  go_wp2_with fail
                  refine (HF.out _).mono ?_
                  rintro e _ ⟨rfl, rfl⟩
                  go_wp2
                  go_ret
                  exact ⟨by rw [HV.out] <;> rfl, HB.out⟩
                · cases t9
                  · go_enter Tryz.func48, Tryz.ntmps48
                    go_wp2_with fail
                    refine (HF.out _).mono ?_
                    rintro e _ ⟨rfl, rfl⟩
                    go_wp2
                    go_ret
                    exact ⟨by rw [HV.out] <;> rfl, HB.out⟩
                  · go_enter Tryz.func48, Tryz.ntmps48
                    go_wp2_with fail
                    refine (HF.out _).mono ?_
                    rintro e _ ⟨rfl, rfl⟩
                    go_wp2
                    go_ret
                    exact ⟨by rw [HV.out] <;> rfl, HB.out⟩
    · cases t5
      · go_enter Tryz.func48, Tryz.ntmps48
        go_wp2
        go_ret
        exact ⟨by rw [HV.out] <;> rfl, HB.out⟩
      · cases t6
        · go_enter Tryz.func48, Tryz.ntmps48
          go_wp2
          go_ret
          exact ⟨by rw [HV.out] <;> rfl, HB.out⟩
        · cases t7
          · go_enter Tryz.func48, Tryz.ntmps48
            go_wp2
            go_ret
            exact ⟨by rw [HV.out] <;> rfl, HB.out⟩
          · cases f
            · go_enter Tryz.func48, Tryz.ntmps48
              go_wp2_with fail
              refine (HF.out _).mono ?_
              rintro e _ ⟨rfl, rfl⟩
              go_wp2
              go_ret
              exact ⟨by rw [HV.out] <;> rfl, HB.out⟩
            · cases t8
              · go_enter Tryz.func48, Tryz.ntmps48
                go_wp2_with fail
                refine (HF.out _).mono ?_
                rintro e _ ⟨rfl, rfl⟩
                go_wp2
                go_ret
                exact ⟨by rw [HV.out] <;> rfl, HB.out⟩
              · cases t9
                · go_enter Tryz.func48, Tryz.ntmps48
                  go_wp2_with fail
                  refine (HF.out _).mono ?_
                  rintro e _ ⟨rfl, rfl⟩
                  go_wp2
                  go_ret
                  exact ⟨by rw [HV.out] <;> rfl, HB.out⟩
                · go_enter Tryz.func48, Tryz.ntmps48
                  go_wp2_with fail
                  refine (HF.out _).mono ?_
                  rintro e _ ⟨rfl, rfl⟩
                  go_wp2
                  go_ret
                  exact ⟨by rw [HV.out] <;> rfl, HB.out⟩
/-- What New answers. -/
def NewQ (p : Po) (w : World) (e : Ending) (w' : World) : Prop := ∃ g, e = .returned (.tuple #[.pointer (some ⟨g, 0, none⟩), .int .i64 0]) ∧ w.heap.size ≤ g ∧ PAt w' g p ∧ Below w.heap.size w w'
end Go.Proofs.YtikcgcgbcolndaaGreat.Pol
