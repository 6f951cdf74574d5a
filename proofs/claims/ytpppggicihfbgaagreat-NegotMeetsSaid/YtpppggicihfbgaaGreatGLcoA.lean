/- Put together: LcoA, LcoB, PolMem, PolA, PolB, PolC, LcoF, PolBd. -/
import Derived.Test.YtpppggicihfbgaaGreatGOpts
import Derived.Test.YtpppggicihfbgaaGreatGRow
import Derived.Test.YtpppggicihfbgaaGreatGHasEx
import Derived.Test.YtpppggicihfbgaaGreatGConvNew
import Derived.Test.YtpppggicihfbgaaGreatGPut16
import Derived.Deep.RegionHeld3
import Derived.RegionTactic
import Derived.BigQuiet
import Derived.Deep.MidRow
import Derived.Laws.Rows
import Derived.Laws.Tables
import Derived.Deep.QuietTactic
import Derived.Laws.BitsAllLaws

/- The struct in a block; contracts of authData and authKind. -/
namespace Go.Proofs.YtpppggicihfbgaaGreat.Lco
open Go.RowKit Go.Proofs.YtpppggicihfbgaaGreat.Oct Go.Proofs.YtpppggicihfbgaaGreat.Row Go.Proofs.YtpppggicihfbgaaGreat.Mem Go.Proofs.YtpppggicihfbgaaGreat.Opt

def LAt (W : World) (g : Nat) (x : Lcp) : Prop := Blk W g (lv x) 42
theorem LAt.callee {W W' : World} {g : Nat} {x : Lcp} (h : LAt W g x) (hb : Below W.heap.size W W') : LAt W' g x := Blk.callee h hb
theorem LAt.below {W W' : World} {g n : Nat} {x : Lcp} (h : LAt W g x) (hb : Below n W W') (hg : g < n) : LAt W' g x := Blk.below h hb hg
theorem LAt.alloc {W : World} {g : Nat} {x : Lcp} (h : LAt W g x) (o : Obj) : LAt (W.alloc o) g x := Blk.alloc h o
theorem LAt.lt {W : World} {g : Nat} {x : Lcp} (h : LAt W g x) : g < W.heap.size := Blk.lt h
theorem lat_new (W : World) (x : Lcp) : LAt (W.alloc (.cells (lv x).toArray 42)) W.heap.size x := blk_new W (lv x) _
theorem LAt.c {W : World} {g : Nat} {x : Lcp} (h : LAt W g x) (i : Nat) : W.cell? ⟨g, i, none⟩ = (lv x)[i]? := Blk.at_ h i
theorem LAt.f {W : World} {g : Nat} {x : Lcp} (h : LAt W g x) (i : Nat) : W.frozen? ⟨g, i, none⟩ = false := Blk.frozen h i

theorem authD_1 : authD 1 = bOf [192, 35] := rfl
theorem authD_2 : authD 2 = bOf [194, 35, 5] := rfl
theorem u8_is {a : UInt8} {n : Nat} (h : a.toNat = n) : ((a.toNat : Int) == (n : Int)) = true := by rw [h]; simp
theorem u8_not {a : UInt8} {n : Nat} (h : ¬ a.toNat = n) : ((a.toNat : Int) == (n : Int)) = false := by rw [beq_eq_false_iff_ne]; omega
theorem u8_isnt {a : UInt8} {n : Nat} (hn : n < 256) (h : ¬ a = UInt8.ofNat n) : ¬ a.toNat = n := fun e => h (UInt8.toNat_inj.1 (by rw [UInt8.toNat_ofNat']; omega))
set_option maxHeartbeats 400000 in
set_option maxRecDepth 100000 in
theorem authData_any (a : UInt8) (w : World) :
    Calls Tryz.prog 172 #[.int .u8 a.toNat] w fun e w' => e = .returned (.string (authD a)) ∧ Below w.heap.size w w' := by
  by_cases h1 : a = 1
  · have hv : bOf (numS 49187 2) = authD a := by rw [numS_two, h1]; rfl
    have hx : ((a.toNat : Int) == 1) = true := u8_is (n := 1) (by rw [h1]; rfl)
    have H := Lib.hid hv; clear hv h1
    go_enter Tryz.func172, Tryz.ntmps172
    go_wp2_with fail
    refine (put16_any 49187 _ (by omega)).mono ?_
    rintro e w1 ⟨rfl, hb1⟩
    have HB1 := Lib.hid hb1; clear hb1
    go_wp2
    go_ret
    exact ⟨by rw [H.out] <;> rfl, HB1.out⟩
  · have hx1 : ((a.toNat : Int) == 1) = false := u8_not (n := 1) (u8_isnt (by omega) h1)
    by_cases h2 : a = 2
    · have hx : ((a.toNat : Int) == 2) = true := u8_is (n := 2) (by rw [h2]; rfl)
      have hv : bOf (numS 49699 2) ++ (⟨#[5]⟩ : ByteArray) = authD a := by rw [numS_two, show (⟨#[5]⟩ : ByteArray) = bOf [5] from rfl, append_bOf, toList_bOf, toList_bOf, h2]; rfl
      have hz : (bOf (numS 49699 2)).size = 2 := by rw [size_bOf, numS_length]
      have H := Lib.hid hv; clear hv
      have HZ := Lib.hid hz; clear hz h1 h2
      go_enter Tryz.func172, Tryz.ntmps172
      go_wp2_with fail
      refine (put16_any 49699 _ (by omega)).mono ?_
      rintro e w1 ⟨rfl, hb1⟩
      have HB1 := Lib.hid hb1; clear hb1
      generalize bOf (numS 49699 2) = s at *
      have hz1 : s.size ≤ 2 := by have := HZ.out; omega
      go_wp2
      go_ret
      exact ⟨by rw [H.out] <;> rfl, HB1.out⟩
    · have hx : ((a.toNat : Int) == 2) = false := u8_not (n := 2) (u8_isnt (by omega) h2)
      have hv : authD a = bOf [] := by unfold authD; rw [if_neg h1, if_neg h2]
      have H := Lib.hid hv; clear hv h1 h2
      go_enter Tryz.func172, Tryz.ntmps172
      go_wp2
      go_ret
      exact ⟨by rw [H.out]; rfl, Below.refl _ _⟩
theorem txt_is {s t : ByteArray} (h : s = t) : (s.toList == t.toList) = true := by rw [h]; simp
theorem txt_not {s t : ByteArray} (h : ¬ s = t) : (s.toList == t.toList) = false := by rw [beq_toList]; exact decide_eq_false fun e => h (toList_inj e)
set_option maxHeartbeats 400000 in
set_option maxRecDepth 100000 in
theorem authKind_any (s : ByteArray) (w : World) :
    Calls Tryz.prog 174 #[.string s] w fun e w' => e = .returned (.int .u8 (authK s).toNat) ∧ Below w.heap.size w w' := by
  have C1 : ∀ w, Calls Tryz.prog 172 #[.int .u8 1] w fun e w' => e = .returned (.string (authD 1)) ∧ Below w.heap.size w w' := fun w => authData_any 1 w
  have C2 : ∀ w, Calls Tryz.prog 172 #[.int .u8 2] w fun e w' => e = .returned (.string (authD 2)) ∧ Below w.heap.size w w' := fun w => authData_any 2 w
  have HC1 := Lib.hid C1; clear C1
  have HC2 := Lib.hid C2; clear C2
  by_cases h1 : s = authD 1
  · have h3 := txt_is h1
    have H : Hid ((authK s).toNat = 1) := by show _ = _; unfold authK; rw [← authD_1, if_pos h1]; rfl
    clear h1
    generalize authD 1 = p at *
    go_enter Tryz.func174, Tryz.ntmps174
    go_wp2_with fail
    refine (HC1.out _).mono ?_
    rintro e w1 ⟨rfl, hb1⟩
    have HB1 := Lib.hid hb1; clear hb1
    go_wp2
    go_ret
    exact ⟨by rw [H.out]; rfl, HB1.out⟩
  · have h3 := txt_not h1
    by_cases h2 : s = authD 2
    · have h4 := txt_is h2
      have H : Hid ((authK s).toNat = 2) := by show _ = _; unfold authK; rw [← authD_1, if_neg h1, ← authD_2, if_pos h2]; rfl
      clear h1 h2
      generalize authD 1 = p at *
      generalize authD 2 = q at *
      go_enter Tryz.func174, Tryz.ntmps174
      go_wp2_with fail
      refine (HC1.out _).mono ?_
      rintro e w1 ⟨rfl, hb1⟩
      have HB1 := Lib.hid hb1; clear hb1
      go_wp2_with fail
      refine (HC2.out _).mono ?_
      rintro e w2 ⟨rfl, hb2⟩
      have HB2 := Lib.hid (HB1.out.trans (hb2.mono HB1.out.size)); clear hb2
      go_wp2
      go_ret
      exact ⟨by rw [H.out]; rfl, HB2.out⟩
    · have h4 := txt_not h2
      have H : Hid ((authK s).toNat = 0) := by show _ = _; unfold authK; rw [← authD_1, if_neg h1, ← authD_2, if_neg h2]; rfl
      clear h1 h2
      generalize authD 1 = p at *
      generalize authD 2 = q at *
      go_enter Tryz.func174, Tryz.ntmps174
      go_wp2_with fail
      refine (HC1.out _).mono ?_
      rintro e w1 ⟨rfl, hb1⟩
      have HB1 := Lib.hid hb1; clear hb1
      go_wp2_with fail
      refine (HC2.out _).mono ?_
      rintro e w2 ⟨rfl, hb2⟩
      have HB2 := Lib.hid (HB1.out.trans (hb2.mono HB1.out.size)); clear hb2
      go_wp2
      go_ret
      exact ⟨by rw [H.out]; rfl, HB2.out⟩
end Go.Proofs.YtpppggicihfbgaaGreat.Lco

/- Contracts of the twelve functions of lcpopt's map: what an option's data is, and how it is read. -/
namespace Go.Proofs.YtpppggicihfbgaaGreat.Lco
open Go.RowKit Go.Proofs.YtpppggicihfbgaaGreat.Oct Go.Proofs.YtpppggicihfbgaaGreat.Row Go.Proofs.YtpppggicihfbgaaGreat.Mem Go.Proofs.YtpppggicihfbgaaGreat.Opt

def DataQ (t : UInt8) (x : Lcp) (w : World) (e : Ending) (w' : World) : Prop := e = .returned (.tuple #[.string (dat t x), .bool (has t x)]) ∧ Below w.heap.size w w'
def ReadQ (o : Opt) (x : Lcp) (w : World) (e : Ending) (w' : World) : Prop := ∃ y, e = .returned (.tuple #[.agg (lv y).toArray, .bool (good o)]) ∧ (good o = true → y = say x o) ∧ Below w.heap.size w w'
theorem callsB {f : FuncId} {args : Array Value} {w : World} {v : Value} (h : Calls Tryz.prog f args w fun e w' => e = .returned v ∧ ∃ k, w' = w.drewN k) : Calls Tryz.prog f args w fun e w' => e = .returned v ∧ Below w.heap.size w w' :=
  h.mono fun _ _ ⟨he, k, hw⟩ => ⟨he, by rw [hw]; exact (Below.refl _ _).drewN' k⟩
theorem boxL (w : World) (x : Lcp) : ∃ W, w.alloc (.cells #[Value.bool x.hm, .int .u16 x.mru.toNat, .bool x.ha, .int .u32 x.accm.toNat, .int .u8 x.auth.toNat, .bool x.hg, .int .u32 x.magic.toNat, .bool x.pfc, .bool x.acfc] 42) = W ∧ Hid (LAt W w.heap.size x ∧ Below w.heap.size w W ∧ W.heap.size = w.heap.size + 1) :=
  ⟨_, rfl, lat_new w x, (Below.refl w.heap.size w).alloc (Nat.le_refl _) _, by simp⟩
theorem boxL2 (w : World) (x : Lcp) : ∃ W, (w.alloc (.cells #[Value.bool x.hm, .int .u16 x.mru.toNat, .bool x.ha, .int .u32 x.accm.toNat, .int .u8 x.auth.toNat, .bool x.hg, .int .u32 x.magic.toNat, .bool x.pfc, .bool x.acfc] 42)).alloc (.cells #[Value.bool false, .int .u16 0, .bool false, .int .u32 0, .int .u8 0, .bool false, .int .u32 0, .bool false, .bool false] 42) = W ∧ Hid (LAt W w.heap.size x ∧ LAt W (w.heap.size + 1) lz ∧ Below w.heap.size w W) :=
  ⟨_, rfl, (lat_new w x).alloc _, by have := lat_new (w.alloc (.cells (lv x).toArray 42)) lz; rw [show (w.alloc (.cells (lv x).toArray 42)).heap.size = w.heap.size + 1 by simp] at this; exact this, ((Below.refl w.heap.size w).alloc (Nat.le_refl _) _).alloc (by simp) _⟩
theorem u16_cast {n : Nat} (h : n < 65536) : (Value.int .u16 ((UInt16.ofNat n).toNat : Nat)) = .int .u16 (n : Nat) := by rw [UInt16.toNat_ofNat', Nat.mod_eq_of_lt h]
theorem u32_cast {n : Nat} (h : n < 4294967296) : (Value.int .u32 ((UInt32.ofNat n).toNat : Nat)) = .int .u32 (n : Nat) := by rw [UInt32.toNat_ofNat', Nat.mod_eq_of_lt h]
def setL (W : World) (g : Nat) (c : List Value) : World :=
  ((((((((W.setCell ⟨g, 0, none⟩ (c.getD 0 undef)).setCell ⟨g, 1, none⟩ (c.getD 1 undef)).setCell ⟨g, 2, none⟩ (c.getD 2 undef)).setCell ⟨g, 3, none⟩ (c.getD 3 undef)).setCell ⟨g, 4, none⟩ (c.getD 4 undef)).setCell ⟨g, 5, none⟩ (c.getD 5 undef)).setCell ⟨g, 6, none⟩ (c.getD 6 undef)).setCell ⟨g, 7, none⟩ (c.getD 7 undef)).setCell ⟨g, 8, none⟩ (c.getD 8 undef)
theorem setL_blk {W : World} {g : Nat} {x y : Lcp} (h : LAt W g x) : LAt (setL W g (lv y)) g y :=
  ((((((((Blk.set h 0 (.bool y.hm)).set 1 (.int .u16 y.mru.toNat)).set 2 (.bool y.ha)).set 3 (.int .u32 y.accm.toNat)).set 4 (.int .u8 y.auth.toNat)).set 5 (.bool y.hg)).set 6 (.int .u32 y.magic.toNat)).set 7 (.bool y.pfc)).set 8 (.bool y.acfc)
theorem setL_moves (W : World) (g : Nat) (c : List Value) : Moves (fun k => k = g) W (setL W g c) :=
  ((((((((((Moves.refl (fun k => k = g) W).setCell ⟨g, 0, none⟩ (fun _ => rfl) _).setCell ⟨g, 1, none⟩ (fun _ => rfl) _).setCell ⟨g, 2, none⟩ (fun _ => rfl) _).setCell ⟨g, 3, none⟩ (fun _ => rfl) _).setCell ⟨g, 4, none⟩ (fun _ => rfl) _).setCell ⟨g, 5, none⟩ (fun _ => rfl) _).setCell ⟨g, 6, none⟩ (fun _ => rfl) _).setCell ⟨g, 7, none⟩ (fun _ => rfl) _).setCell ⟨g, 8, none⟩ (fun _ => rfl) _)
theorem setL_below {W w : World} {g n : Nat} (h : Below n w W) (hn : n ≤ W.heap.size) (hg : n ≤ g) (c : List Value) : Below n w (setL W g c) :=
  h.trans ((setL_moves W g c).below hn (fun k e => by subst e; exact hg))
set_option maxHeartbeats 1000000 in
set_option maxRecDepth 100000 in
theorem data1 (x : Lcp) (w : World) : Calls Tryz.prog 166 #[.agg (lv x).toArray] w (DataQ 1 x w) := by
  show Calls Tryz.prog 166 #[.agg #[Value.bool x.hm, .int .u16 x.mru.toNat, .bool x.ha, .int .u32 x.accm.toNat, .int .u8 x.auth.toNat, .bool x.hg, .int .u32 x.magic.toNat, .bool x.pfc, .bool x.acfc]] w fun e w' => e = .returned (.tuple #[.string (bOf (numS x.mru.toNat 2)), .bool (x.hm)]) ∧ Below w.heap.size w w'
  obtain ⟨W, hW, HW⟩ := boxL w x
  have C1 := Lib.hid (fun W => put16_any x.mru.toNat W (by have := x.mru.toNat_lt; omega))
  generalize hs : bOf (numS x.mru.toNat 2) = s at *
  clear hs
  have HB := Lib.hid HW.out.2.1
  have c1 : W.cell? ⟨w.heap.size, 1, none⟩ = some (.int .u16 x.mru.toNat) := HW.out.1.c 1
  have c2 : W.cell? ⟨w.heap.size, 0, none⟩ = some (.bool x.hm) := HW.out.1.c 0
  go_enter Tryz.func166, Tryz.ntmps166
  go_wp2
  clear hW
  have d1 : W.drew.cell? ⟨w.heap.size, 1, none⟩ = some (.int .u16 x.mru.toNat) := c1
  have d2 : W.drew.cell? ⟨w.heap.size, 0, none⟩ = some (.bool x.hm) := c2
  have HBd := Lib.hid HB.out.drew
  go_region_held3 (fun w' => w'.cell? ⟨w.heap.size, 1, none⟩ = some (.int .u16 x.mru.toNat) ∧ w'.cell? ⟨w.heap.size, 0, none⟩ = some (.bool x.hm))
    (first | assumption | (refine ⟨?_, ?_⟩ <;> assumption) | (go_split_ands; refine ⟨?_, ?_⟩ <;> assumption))
    (first
      | (go_at_call 92; (refine (C1.out _).mono ?_; clear C1; rintro e w6 ⟨rfl, hb6⟩; have HB6 := Lib.hid (HBd.out.trans (hb6.mono HBd.out.size)); have y1 := (hb6.cell (p := ⟨w.heap.size, 1, none⟩) (World.block_lt_of_cell? _ _ d1)).trans d1; have y2 := (hb6.cell (p := ⟨w.heap.size, 0, none⟩) (World.block_lt_of_cell? _ _ d2)).trans d2))
      | fail)
  go_wp2
  go_ret2
  exact ⟨rfl, HB6.out⟩
set_option maxHeartbeats 1000000 in
set_option maxRecDepth 100000 in
theorem data2 (x : Lcp) (w : World) : Calls Tryz.prog 168 #[.agg (lv x).toArray] w (DataQ 2 x w) := by
  show Calls Tryz.prog 168 #[.agg #[Value.bool x.hm, .int .u16 x.mru.toNat, .bool x.ha, .int .u32 x.accm.toNat, .int .u8 x.auth.toNat, .bool x.hg, .int .u32 x.magic.toNat, .bool x.pfc, .bool x.acfc]] w fun e w' => e = .returned (.tuple #[.string (bOf (numS x.accm.toNat 4)), .bool (x.ha)]) ∧ Below w.heap.size w w'
  obtain ⟨W, hW, HW⟩ := boxL w x
  have C1 := Lib.hid (fun W => put32_any x.accm.toNat W (by have := x.accm.toNat_lt; omega))
  generalize hs : bOf (numS x.accm.toNat 4) = s at *
  clear hs
  have HB := Lib.hid HW.out.2.1
  have c1 : W.cell? ⟨w.heap.size, 3, none⟩ = some (.int .u32 x.accm.toNat) := HW.out.1.c 3
  have c2 : W.cell? ⟨w.heap.size, 2, none⟩ = some (.bool x.ha) := HW.out.1.c 2
  go_enter Tryz.func168, Tryz.ntmps168
  go_wp2
  clear hW
  have d1 : W.drew.cell? ⟨w.heap.size, 3, none⟩ = some (.int .u32 x.accm.toNat) := c1
  have d2 : W.drew.cell? ⟨w.heap.size, 2, none⟩ = some (.bool x.ha) := c2
  have HBd := Lib.hid HB.out.drew
  go_region_held3 (fun w' => w'.cell? ⟨w.heap.size, 3, none⟩ = some (.int .u32 x.accm.toNat) ∧ w'.cell? ⟨w.heap.size, 2, none⟩ = some (.bool x.ha))
    (first | assumption | (refine ⟨?_, ?_⟩ <;> assumption) | (go_split_ands; refine ⟨?_, ?_⟩ <;> assumption))
    (first
      | (go_at_call 82; (refine (C1.out _).mono ?_; clear C1; rintro e w6 ⟨rfl, hb6⟩; have HB6 := Lib.hid (HBd.out.trans (hb6.mono HBd.out.size)); have y1 := (hb6.cell (p := ⟨w.heap.size, 3, none⟩) (World.block_lt_of_cell? _ _ d1)).trans d1; have y2 := (hb6.cell (p := ⟨w.heap.size, 2, none⟩) (World.block_lt_of_cell? _ _ d2)).trans d2))
      | fail)
  go_wp2
  go_ret2
  exact ⟨rfl, HB6.out⟩
set_option maxHeartbeats 1000000 in
set_option maxRecDepth 100000 in
theorem data3 (x : Lcp) (w : World) : Calls Tryz.prog 171 #[.agg (lv x).toArray] w (DataQ 3 x w) := by
  show Calls Tryz.prog 171 #[.agg #[Value.bool x.hm, .int .u16 x.mru.toNat, .bool x.ha, .int .u32 x.accm.toNat, .int .u8 x.auth.toNat, .bool x.hg, .int .u32 x.magic.toNat, .bool x.pfc, .bool x.acfc]] w fun e w' => e = .returned (.tuple #[.string (authD x.auth), .bool (x.auth != 0)]) ∧ Below w.heap.size w w'
  obtain ⟨W, hW, HW⟩ := boxL w x
  have C1 := Lib.hid (fun W => authData_any x.auth W)
  generalize authD x.auth = s at *
  have hx : ((x.auth.toNat : Int) != 0) = (x.auth != 0) := by rw [Bool.eq_iff_iff]; simp; exact ⟨fun h e => h (by rw [e]; rfl), fun h e => h (UInt8.toNat_inj.1 (by rw [e]; rfl))⟩
  generalize (x.auth != 0) = b at *
  have HB := Lib.hid HW.out.2.1
  have c1 : W.cell? ⟨w.heap.size, 4, none⟩ = some (.int .u8 x.auth.toNat) := HW.out.1.c 4
  go_enter Tryz.func171, Tryz.ntmps171
  go_wp2
  clear hW
  have d1 : W.drew.cell? ⟨w.heap.size, 4, none⟩ = some (.int .u8 x.auth.toNat) := c1
  have HBd := Lib.hid HB.out.drew
  go_region_held3 (fun w' => w'.cell? ⟨w.heap.size, 4, none⟩ = some (.int .u8 x.auth.toNat))
    (first | assumption | (refine ⟨?_, ?_⟩ <;> assumption) | (go_split_ands; refine ⟨?_, ?_⟩ <;> assumption))
    (first
      | (go_at_call 172; (refine (C1.out _).mono ?_; clear C1; rintro e w6 ⟨rfl, hb6⟩; have HB6 := Lib.hid (HBd.out.trans (hb6.mono HBd.out.size)); have y1 := (hb6.cell (p := ⟨w.heap.size, 4, none⟩) (World.block_lt_of_cell? _ _ d1)).trans d1))
      | fail)
  go_wp2
  go_ret2
  exact ⟨by simp, HB6.out⟩
set_option maxHeartbeats 1000000 in
set_option maxRecDepth 100000 in
theorem data5 (x : Lcp) (w : World) : Calls Tryz.prog 175 #[.agg (lv x).toArray] w (DataQ 5 x w) := by
  show Calls Tryz.prog 175 #[.agg #[Value.bool x.hm, .int .u16 x.mru.toNat, .bool x.ha, .int .u32 x.accm.toNat, .int .u8 x.auth.toNat, .bool x.hg, .int .u32 x.magic.toNat, .bool x.pfc, .bool x.acfc]] w fun e w' => e = .returned (.tuple #[.string (bOf (numS x.magic.toNat 4)), .bool (x.hg)]) ∧ Below w.heap.size w w'
  obtain ⟨W, hW, HW⟩ := boxL w x
  have C1 := Lib.hid (fun W => put32_any x.magic.toNat W (by have := x.magic.toNat_lt; omega))
  generalize hs : bOf (numS x.magic.toNat 4) = s at *
  clear hs
  have HB := Lib.hid HW.out.2.1
  have c1 : W.cell? ⟨w.heap.size, 6, none⟩ = some (.int .u32 x.magic.toNat) := HW.out.1.c 6
  have c2 : W.cell? ⟨w.heap.size, 5, none⟩ = some (.bool x.hg) := HW.out.1.c 5
  go_enter Tryz.func175, Tryz.ntmps175
  go_wp2
  clear hW
  have d1 : W.drew.cell? ⟨w.heap.size, 6, none⟩ = some (.int .u32 x.magic.toNat) := c1
  have d2 : W.drew.cell? ⟨w.heap.size, 5, none⟩ = some (.bool x.hg) := c2
  have HBd := Lib.hid HB.out.drew
  go_region_held3 (fun w' => w'.cell? ⟨w.heap.size, 6, none⟩ = some (.int .u32 x.magic.toNat) ∧ w'.cell? ⟨w.heap.size, 5, none⟩ = some (.bool x.hg))
    (first | assumption | (refine ⟨?_, ?_⟩ <;> assumption) | (go_split_ands; refine ⟨?_, ?_⟩ <;> assumption))
    (first
      | (go_at_call 82; (refine (C1.out _).mono ?_; clear C1; rintro e w6 ⟨rfl, hb6⟩; have HB6 := Lib.hid (HBd.out.trans (hb6.mono HBd.out.size)); have y1 := (hb6.cell (p := ⟨w.heap.size, 6, none⟩) (World.block_lt_of_cell? _ _ d1)).trans d1; have y2 := (hb6.cell (p := ⟨w.heap.size, 5, none⟩) (World.block_lt_of_cell? _ _ d2)).trans d2))
      | fail)
  go_wp2
  go_ret2
  exact ⟨rfl, HB6.out⟩
set_option maxHeartbeats 1000000 in
set_option maxRecDepth 100000 in
theorem data7 (x : Lcp) (w : World) : Calls Tryz.prog 177 #[.agg (lv x).toArray] w (DataQ 7 x w) := by
  show Calls Tryz.prog 177 #[.agg #[Value.bool x.hm, .int .u16 x.mru.toNat, .bool x.ha, .int .u32 x.accm.toNat, .int .u8 x.auth.toNat, .bool x.hg, .int .u32 x.magic.toNat, .bool x.pfc, .bool x.acfc]] w fun e w' => e = .returned (.tuple #[.string (bOf []), .bool (x.pfc)]) ∧ Below w.heap.size w w'
  obtain ⟨W, hW, HW⟩ := boxL w x
  have HB := Lib.hid HW.out.2.1
  have c1 : W.cell? ⟨w.heap.size, 7, none⟩ = some (.bool x.pfc) := HW.out.1.c 7
  go_enter Tryz.func177, Tryz.ntmps177
  go_wp2
  clear hW
  go_quiet (fail)
  go_wp2
  go_ret2
  exact ⟨rfl, HB.out.drewN' _⟩
set_option maxHeartbeats 1000000 in
set_option maxRecDepth 100000 in
theorem data8 (x : Lcp) (w : World) : Calls Tryz.prog 179 #[.agg (lv x).toArray] w (DataQ 8 x w) := by
  show Calls Tryz.prog 179 #[.agg #[Value.bool x.hm, .int .u16 x.mru.toNat, .bool x.ha, .int .u32 x.accm.toNat, .int .u8 x.auth.toNat, .bool x.hg, .int .u32 x.magic.toNat, .bool x.pfc, .bool x.acfc]] w fun e w' => e = .returned (.tuple #[.string (bOf []), .bool (x.acfc)]) ∧ Below w.heap.size w w'
  obtain ⟨W, hW, HW⟩ := boxL w x
  have HB := Lib.hid HW.out.2.1
  have c1 : W.cell? ⟨w.heap.size, 8, none⟩ = some (.bool x.acfc) := HW.out.1.c 8
  go_enter Tryz.func179, Tryz.ntmps179
  go_wp2
  clear hW
  go_quiet (fail)
  go_wp2
  go_ret2
  exact ⟨rfl, HB.out.drewN' _⟩
set_option maxHeartbeats 2000000 in
set_option maxRecDepth 100000 in
theorem read1 (d : ByteArray) (x : Lcp) (w : World) (hd : d.size ≤ maxLen) : Calls Tryz.prog 167 #[.agg (lv x).toArray, .string d] w (ReadQ (1, d) x w) := by
  show Calls Tryz.prog 167 #[.agg #[Value.bool x.hm, .int .u16 x.mru.toNat, .bool x.ha, .int .u32 x.accm.toNat, .int .u8 x.auth.toNat, .bool x.hg, .int .u32 x.magic.toNat, .bool x.pfc, .bool x.acfc], .string d] w (ReadQ (1, d) x w)
  obtain ⟨W, hW, HW⟩ := boxL2 w x
  have HG : Hid (good (1, d) = decide (d.size = 2)) := rfl
  have C1 := Lib.hid (fun W => callsB (get16_any d W hd))
  have hn : getN 2 d < 65536 := by
    unfold getN
    split
    · omega
    · split
      · omega
      · have := val_lt d.toList
        rw [← size_toList, show d.size = 2 by omega] at this
        omega
  have HY : Hid (good (1, d) = true → ({ x with hm := true, mru := UInt16.ofNat (getN 2 d) } : Lcp) = say x (1, d)) := fun h => by
    have e : d.size = 2 := of_decide_eq_true h
    show _ = ({ x with hm := true, mru := UInt16.ofNat (val d.toList) } : Lcp)
    unfold getN
    rw [if_neg (by omega), if_neg (by omega)]
  have HE : Hid ((((getE 2 d : Int) == 0) = good (1, d))) := by
    show _ = decide (d.size = 2)
    unfold getE
    rcases Nat.lt_trichotomy d.size 2 with h | h | h
    · rw [if_pos h, decide_eq_false (by omega)]; rfl
    · rw [if_neg (by omega), if_neg (by omega), decide_eq_true h]; rfl
    · rw [if_neg (by omega), if_pos h, decide_eq_false (by omega)]; rfl
  have HC := Lib.hid (u16_cast hn)
  generalize getN 2 d = n at *
  generalize getE 2 d = er at *
  clear HG hn
  have hE := HE.out
  go_enter Tryz.func167, Tryz.ntmps167
  go_wp2_with fail
  refine (C1.out _).mono ?_
  rintro e w1 ⟨rfl, hb1⟩
  clear hW
  have HL1 := Lib.hid (HW.out.1.callee hb1)
  have HZ1 := Lib.hid (HW.out.2.1.callee hb1)
  have HB1 := Lib.hid (HW.out.2.2.trans (hb1.mono HW.out.2.2.size))
  clear hb1 HW C1
  obtain ⟨V, hV, HV⟩ : ∃ V, (w1.setCell ⟨w.heap.size, 0, none⟩ (.bool true)).setCell ⟨w.heap.size, 1, none⟩ (.int .u16 (n : Nat)) = V ∧ Hid (LAt V w.heap.size ({ x with hm := true, mru := UInt16.ofNat n } : Lcp) ∧ LAt V (w.heap.size + 1) lz ∧ Below w.heap.size w V) :=
    ⟨_, rfl, by have := (Blk.set HL1.out 0 (.bool true)).set 1 (.int .u16 (n : Nat)); rw [← HC.out] at this ⊢; exact this, Blk.moves HZ1.out (((Moves.refl (fun k => k = w.heap.size) w1).setCell ⟨w.heap.size, 0, none⟩ (fun _ => rfl) _).setCell ⟨w.heap.size, 1, none⟩ (fun _ => rfl) _) (by omega), HB1.out.trans ((((Moves.refl (fun k => k = w.heap.size) w1).setCell ⟨w.heap.size, 0, none⟩ (fun _ => rfl) _).setCell ⟨w.heap.size, 1, none⟩ (fun _ => rfl) _).below HB1.out.size (fun k e => by omega))⟩
  have f0 := HL1.out.f 0
  have e0 : w1.cell? ⟨w.heap.size, 0, none⟩ = some (Value.bool x.hm) := HL1.out.c 0
  have f1 := HL1.out.f 1
  have e1 : w1.cell? ⟨w.heap.size, 1, none⟩ = some (.int .u16 x.mru.toNat) := HL1.out.c 1
  have c0 : V.cell? ⟨w.heap.size, 0, none⟩ = some (.bool true) := HV.out.1.c 0
  have g0 := HV.out.2.1.f 0
  have z0 : V.cell? ⟨w.heap.size + 1, 0, none⟩ = some (Value.bool false) := HV.out.2.1.c 0
  have c1 : V.cell? ⟨w.heap.size, 1, none⟩ = some (.int .u16 (n : Nat)) := (HV.out.1.c 1).trans (by show some _ = _; rw [← HC.out])
  have g1 := HV.out.2.1.f 1
  have z1 : V.cell? ⟨w.heap.size + 1, 1, none⟩ = some (.int .u16 0) := HV.out.2.1.c 1
  have c2 : V.cell? ⟨w.heap.size, 2, none⟩ = some (.bool x.ha) := HV.out.1.c 2
  have g2 := HV.out.2.1.f 2
  have z2 : V.cell? ⟨w.heap.size + 1, 2, none⟩ = some (.bool false) := HV.out.2.1.c 2
  have c3 : V.cell? ⟨w.heap.size, 3, none⟩ = some (.int .u32 x.accm.toNat) := HV.out.1.c 3
  have g3 := HV.out.2.1.f 3
  have z3 : V.cell? ⟨w.heap.size + 1, 3, none⟩ = some (.int .u32 0) := HV.out.2.1.c 3
  have c4 : V.cell? ⟨w.heap.size, 4, none⟩ = some (.int .u8 x.auth.toNat) := HV.out.1.c 4
  have g4 := HV.out.2.1.f 4
  have z4 : V.cell? ⟨w.heap.size + 1, 4, none⟩ = some (.int .u8 0) := HV.out.2.1.c 4
  have c5 : V.cell? ⟨w.heap.size, 5, none⟩ = some (.bool x.hg) := HV.out.1.c 5
  have g5 := HV.out.2.1.f 5
  have z5 : V.cell? ⟨w.heap.size + 1, 5, none⟩ = some (.bool false) := HV.out.2.1.c 5
  have c6 : V.cell? ⟨w.heap.size, 6, none⟩ = some (.int .u32 x.magic.toNat) := HV.out.1.c 6
  have g6 := HV.out.2.1.f 6
  have z6 : V.cell? ⟨w.heap.size + 1, 6, none⟩ = some (.int .u32 0) := HV.out.2.1.c 6
  have c7 : V.cell? ⟨w.heap.size, 7, none⟩ = some (.bool x.pfc) := HV.out.1.c 7
  have g7 := HV.out.2.1.f 7
  have z7 : V.cell? ⟨w.heap.size + 1, 7, none⟩ = some (.bool false) := HV.out.2.1.c 7
  have c8 : V.cell? ⟨w.heap.size, 8, none⟩ = some (.bool x.acfc) := HV.out.1.c 8
  have g8 := HV.out.2.1.f 8
  have z8 : V.cell? ⟨w.heap.size + 1, 8, none⟩ = some (.bool false) := HV.out.2.1.c 8
  go_wp2
  rw [← HC.out]
  have HR := setL_blk (y := ({ x with hm := true, mru := UInt16.ofNat n } : Lcp)) HV.out.2.1
  have HBe := setL_below HV.out.2.2 HV.out.2.2.size (g := w.heap.size + 1) (by omega) (lv ({ x with hm := true, mru := UInt16.ofNat n } : Lcp))
  (try simp only [Exit.inBlock, Exit.then])
  refine bodyPost_ret (results_row1 rfl _ _ (w.heap.size + 1) (lv ({ x with hm := true, mru := UInt16.ofNat n } : Lcp)) _ _ rfl HR Tryz.underlying42 rfl (by kernel_rfl)) rfl ?_
  exact ⟨({ x with hm := true, mru := UInt16.ofNat n } : Lcp), rfl, HY.out, HBe⟩
set_option maxHeartbeats 2000000 in
set_option maxRecDepth 100000 in
theorem read2 (d : ByteArray) (x : Lcp) (w : World) (hd : d.size ≤ maxLen) : Calls Tryz.prog 169 #[.agg (lv x).toArray, .string d] w (ReadQ (2, d) x w) := by
  show Calls Tryz.prog 169 #[.agg #[Value.bool x.hm, .int .u16 x.mru.toNat, .bool x.ha, .int .u32 x.accm.toNat, .int .u8 x.auth.toNat, .bool x.hg, .int .u32 x.magic.toNat, .bool x.pfc, .bool x.acfc], .string d] w (ReadQ (2, d) x w)
  obtain ⟨W, hW, HW⟩ := boxL2 w x
  have HG : Hid (good (2, d) = decide (d.size = 4)) := rfl
  have C1 := Lib.hid (fun W => callsB (get32_any d W hd))
  have hn : getN 4 d < 4294967296 := by
    unfold getN
    split
    · omega
    · split
      · omega
      · have := val_lt d.toList
        rw [← size_toList, show d.size = 4 by omega] at this
        omega
  have HY : Hid (good (2, d) = true → ({ x with ha := true, accm := UInt32.ofNat (getN 4 d) } : Lcp) = say x (2, d)) := fun h => by
    have e : d.size = 4 := of_decide_eq_true h
    show _ = ({ x with ha := true, accm := UInt32.ofNat (val d.toList) } : Lcp)
    unfold getN
    rw [if_neg (by omega), if_neg (by omega)]
  have HE : Hid ((((getE 4 d : Int) == 0) = good (2, d))) := by
    show _ = decide (d.size = 4)
    unfold getE
    rcases Nat.lt_trichotomy d.size 4 with h | h | h
    · rw [if_pos h, decide_eq_false (by omega)]; rfl
    · rw [if_neg (by omega), if_neg (by omega), decide_eq_true h]; rfl
    · rw [if_neg (by omega), if_pos h, decide_eq_false (by omega)]; rfl
  have HC := Lib.hid (u32_cast hn)
  generalize getN 4 d = n at *
  generalize getE 4 d = er at *
  clear HG hn
  have hE := HE.out
  go_enter Tryz.func169, Tryz.ntmps169
  go_wp2_with fail
  refine (C1.out _).mono ?_
  rintro e w1 ⟨rfl, hb1⟩
  clear hW
  have HL1 := Lib.hid (HW.out.1.callee hb1)
  have HZ1 := Lib.hid (HW.out.2.1.callee hb1)
  have HB1 := Lib.hid (HW.out.2.2.trans (hb1.mono HW.out.2.2.size))
  clear hb1 HW C1
  obtain ⟨V, hV, HV⟩ : ∃ V, (w1.setCell ⟨w.heap.size, 2, none⟩ (.bool true)).setCell ⟨w.heap.size, 3, none⟩ (.int .u32 (n : Nat)) = V ∧ Hid (LAt V w.heap.size ({ x with ha := true, accm := UInt32.ofNat n } : Lcp) ∧ LAt V (w.heap.size + 1) lz ∧ Below w.heap.size w V) :=
    ⟨_, rfl, by have := (Blk.set HL1.out 2 (.bool true)).set 3 (.int .u32 (n : Nat)); rw [← HC.out] at this ⊢; exact this, Blk.moves HZ1.out (((Moves.refl (fun k => k = w.heap.size) w1).setCell ⟨w.heap.size, 2, none⟩ (fun _ => rfl) _).setCell ⟨w.heap.size, 3, none⟩ (fun _ => rfl) _) (by omega), HB1.out.trans ((((Moves.refl (fun k => k = w.heap.size) w1).setCell ⟨w.heap.size, 2, none⟩ (fun _ => rfl) _).setCell ⟨w.heap.size, 3, none⟩ (fun _ => rfl) _).below HB1.out.size (fun k e => by omega))⟩
  have f2 := HL1.out.f 2
  have e2 : w1.cell? ⟨w.heap.size, 2, none⟩ = some (.bool x.ha) := HL1.out.c 2
  have f3 := HL1.out.f 3
  have e3 : w1.cell? ⟨w.heap.size, 3, none⟩ = some (.int .u32 x.accm.toNat) := HL1.out.c 3
  have c0 : V.cell? ⟨w.heap.size, 0, none⟩ = some (Value.bool x.hm) := HV.out.1.c 0
  have g0 := HV.out.2.1.f 0
  have z0 : V.cell? ⟨w.heap.size + 1, 0, none⟩ = some (Value.bool false) := HV.out.2.1.c 0
  have c1 : V.cell? ⟨w.heap.size, 1, none⟩ = some (.int .u16 x.mru.toNat) := HV.out.1.c 1
  have g1 := HV.out.2.1.f 1
  have z1 : V.cell? ⟨w.heap.size + 1, 1, none⟩ = some (.int .u16 0) := HV.out.2.1.c 1
  have c2 : V.cell? ⟨w.heap.size, 2, none⟩ = some (.bool true) := HV.out.1.c 2
  have g2 := HV.out.2.1.f 2
  have z2 : V.cell? ⟨w.heap.size + 1, 2, none⟩ = some (.bool false) := HV.out.2.1.c 2
  have c3 : V.cell? ⟨w.heap.size, 3, none⟩ = some (.int .u32 (n : Nat)) := (HV.out.1.c 3).trans (by show some _ = _; rw [← HC.out])
  have g3 := HV.out.2.1.f 3
  have z3 : V.cell? ⟨w.heap.size + 1, 3, none⟩ = some (.int .u32 0) := HV.out.2.1.c 3
  have c4 : V.cell? ⟨w.heap.size, 4, none⟩ = some (.int .u8 x.auth.toNat) := HV.out.1.c 4
  have g4 := HV.out.2.1.f 4
  have z4 : V.cell? ⟨w.heap.size + 1, 4, none⟩ = some (.int .u8 0) := HV.out.2.1.c 4
  have c5 : V.cell? ⟨w.heap.size, 5, none⟩ = some (.bool x.hg) := HV.out.1.c 5
  have g5 := HV.out.2.1.f 5
  have z5 : V.cell? ⟨w.heap.size + 1, 5, none⟩ = some (.bool false) := HV.out.2.1.c 5
  have c6 : V.cell? ⟨w.heap.size, 6, none⟩ = some (.int .u32 x.magic.toNat) := HV.out.1.c 6
  have g6 := HV.out.2.1.f 6
  have z6 : V.cell? ⟨w.heap.size + 1, 6, none⟩ = some (.int .u32 0) := HV.out.2.1.c 6
  have c7 : V.cell? ⟨w.heap.size, 7, none⟩ = some (.bool x.pfc) := HV.out.1.c 7
  have g7 := HV.out.2.1.f 7
  have z7 : V.cell? ⟨w.heap.size + 1, 7, none⟩ = some (.bool false) := HV.out.2.1.c 7
  have c8 : V.cell? ⟨w.heap.size, 8, none⟩ = some (.bool x.acfc) := HV.out.1.c 8
  have g8 := HV.out.2.1.f 8
  have z8 : V.cell? ⟨w.heap.size + 1, 8, none⟩ = some (.bool false) := HV.out.2.1.c 8
  go_wp2
  rw [← HC.out]
  have HR := setL_blk (y := ({ x with ha := true, accm := UInt32.ofNat n } : Lcp)) HV.out.2.1
  have HBe := setL_below HV.out.2.2 HV.out.2.2.size (g := w.heap.size + 1) (by omega) (lv ({ x with ha := true, accm := UInt32.ofNat n } : Lcp))
  (try simp only [Exit.inBlock, Exit.then])
  refine bodyPost_ret (results_row1 rfl _ _ (w.heap.size + 1) (lv ({ x with ha := true, accm := UInt32.ofNat n } : Lcp)) _ _ rfl HR Tryz.underlying42 rfl (by kernel_rfl)) rfl ?_
  exact ⟨({ x with ha := true, accm := UInt32.ofNat n } : Lcp), rfl, HY.out, HBe⟩
set_option maxHeartbeats 2000000 in
set_option maxRecDepth 100000 in
theorem read3 (d : ByteArray) (x : Lcp) (w : World) (hd : d.size ≤ maxLen) : Calls Tryz.prog 173 #[.agg (lv x).toArray, .string d] w (ReadQ (3, d) x w) := by
  show Calls Tryz.prog 173 #[.agg #[Value.bool x.hm, .int .u16 x.mru.toNat, .bool x.ha, .int .u32 x.accm.toNat, .int .u8 x.auth.toNat, .bool x.hg, .int .u32 x.magic.toNat, .bool x.pfc, .bool x.acfc], .string d] w (ReadQ (3, d) x w)
  obtain ⟨W, hW, HW⟩ := boxL2 w x
  have C1 := Lib.hid (fun W => authKind_any d W)
  have HE : Hid ((((authK d).toNat : Int) != 0) = good (3, d)) := by
    show _ = (authK d != 0)
    rw [Bool.eq_iff_iff]; simp; exact ⟨fun h e => h (by rw [e]; rfl), fun h e => h (UInt8.toNat_inj.1 (by rw [e]; rfl))⟩
  have HY : Hid (({ x with auth := authK d } : Lcp) = say x (3, d)) := rfl
  generalize authK d = kd at *
  have hE := HE.out
  go_enter Tryz.func173, Tryz.ntmps173
  go_wp2_with fail
  refine (C1.out _).mono ?_
  rintro e w1 ⟨rfl, hb1⟩
  clear hW
  have HL1 := Lib.hid (HW.out.1.callee hb1)
  have HZ1 := Lib.hid (HW.out.2.1.callee hb1)
  have HB1 := Lib.hid (HW.out.2.2.trans (hb1.mono HW.out.2.2.size))
  clear hb1 HW C1
  obtain ⟨V, hV, HV⟩ : ∃ V, w1.setCell ⟨w.heap.size, 4, none⟩ (.int .u8 kd.toNat) = V ∧ Hid (LAt V w.heap.size ({ x with auth := kd } : Lcp) ∧ LAt V (w.heap.size + 1) lz ∧ Below w.heap.size w V) :=
    ⟨_, rfl, Blk.set HL1.out 4 _, Blk.moves HZ1.out ((Moves.refl (fun k => k = w.heap.size) w1).setCell ⟨w.heap.size, 4, none⟩ (fun _ => rfl) _) (by omega), HB1.out.trans (((Moves.refl (fun k => k = w.heap.size) w1).setCell ⟨w.heap.size, 4, none⟩ (fun _ => rfl) _).below HB1.out.size (fun k e => by omega))⟩
  have f4 := HL1.out.f 4
  have e4 : w1.cell? ⟨w.heap.size, 4, none⟩ = some (.int .u8 x.auth.toNat) := HL1.out.c 4
  have c0 : V.cell? ⟨w.heap.size, 0, none⟩ = some (Value.bool x.hm) := HV.out.1.c 0
  have g0 := HV.out.2.1.f 0
  have z0 : V.cell? ⟨w.heap.size + 1, 0, none⟩ = some (Value.bool false) := HV.out.2.1.c 0
  have c1 : V.cell? ⟨w.heap.size, 1, none⟩ = some (.int .u16 x.mru.toNat) := HV.out.1.c 1
  have g1 := HV.out.2.1.f 1
  have z1 : V.cell? ⟨w.heap.size + 1, 1, none⟩ = some (.int .u16 0) := HV.out.2.1.c 1
  have c2 : V.cell? ⟨w.heap.size, 2, none⟩ = some (.bool x.ha) := HV.out.1.c 2
  have g2 := HV.out.2.1.f 2
  have z2 : V.cell? ⟨w.heap.size + 1, 2, none⟩ = some (.bool false) := HV.out.2.1.c 2
  have c3 : V.cell? ⟨w.heap.size, 3, none⟩ = some (.int .u32 x.accm.toNat) := HV.out.1.c 3
  have g3 := HV.out.2.1.f 3
  have z3 : V.cell? ⟨w.heap.size + 1, 3, none⟩ = some (.int .u32 0) := HV.out.2.1.c 3
  have c4 : V.cell? ⟨w.heap.size, 4, none⟩ = some (.int .u8 kd.toNat) := HV.out.1.c 4
  have g4 := HV.out.2.1.f 4
  have z4 : V.cell? ⟨w.heap.size + 1, 4, none⟩ = some (.int .u8 0) := HV.out.2.1.c 4
  have c5 : V.cell? ⟨w.heap.size, 5, none⟩ = some (.bool x.hg) := HV.out.1.c 5
  have g5 := HV.out.2.1.f 5
  have z5 : V.cell? ⟨w.heap.size + 1, 5, none⟩ = some (.bool false) := HV.out.2.1.c 5
  have c6 : V.cell? ⟨w.heap.size, 6, none⟩ = some (.int .u32 x.magic.toNat) := HV.out.1.c 6
  have g6 := HV.out.2.1.f 6
  have z6 : V.cell? ⟨w.heap.size + 1, 6, none⟩ = some (.int .u32 0) := HV.out.2.1.c 6
  have c7 : V.cell? ⟨w.heap.size, 7, none⟩ = some (.bool x.pfc) := HV.out.1.c 7
  have g7 := HV.out.2.1.f 7
  have z7 : V.cell? ⟨w.heap.size + 1, 7, none⟩ = some (.bool false) := HV.out.2.1.c 7
  have c8 : V.cell? ⟨w.heap.size, 8, none⟩ = some (.bool x.acfc) := HV.out.1.c 8
  have g8 := HV.out.2.1.f 8
  have z8 : V.cell? ⟨w.heap.size + 1, 8, none⟩ = some (.bool false) := HV.out.2.1.c 8
  go_wp2
  clear hV
  go_region
  all_goals go_wp2
  have HR := setL_blk (y := ({ x with auth := kd } : Lcp)) HV.out.2.1
  have HBe := setL_below HV.out.2.2 HV.out.2.2.size (g := w.heap.size + 1) (by omega) (lv ({ x with auth := kd } : Lcp))
  (try simp only [Exit.inBlock, Exit.then])
  refine bodyPost_ret (results_row1 rfl _ _ (w.heap.size + 1) (lv ({ x with auth := kd } : Lcp)) _ _ rfl HR.drew Tryz.underlying42 rfl (by kernel_rfl)) rfl ?_
  exact ⟨({ x with auth := kd } : Lcp), rfl, fun _ => HY.out, HBe.drew⟩
set_option maxHeartbeats 2000000 in
set_option maxRecDepth 100000 in
theorem read5 (d : ByteArray) (x : Lcp) (w : World) (hd : d.size ≤ maxLen) : Calls Tryz.prog 176 #[.agg (lv x).toArray, .string d] w (ReadQ (5, d) x w) := by
  show Calls Tryz.prog 176 #[.agg #[Value.bool x.hm, .int .u16 x.mru.toNat, .bool x.ha, .int .u32 x.accm.toNat, .int .u8 x.auth.toNat, .bool x.hg, .int .u32 x.magic.toNat, .bool x.pfc, .bool x.acfc], .string d] w (ReadQ (5, d) x w)
  obtain ⟨W, hW, HW⟩ := boxL2 w x
  have HG : Hid (good (5, d) = decide (d.size = 4)) := rfl
  have C1 := Lib.hid (fun W => callsB (get32_any d W hd))
  have hn : getN 4 d < 4294967296 := by
    unfold getN
    split
    · omega
    · split
      · omega
      · have := val_lt d.toList
        rw [← size_toList, show d.size = 4 by omega] at this
        omega
  have HY : Hid (good (5, d) = true → ({ x with hg := true, magic := UInt32.ofNat (getN 4 d) } : Lcp) = say x (5, d)) := fun h => by
    have e : d.size = 4 := of_decide_eq_true h
    show _ = ({ x with hg := true, magic := UInt32.ofNat (val d.toList) } : Lcp)
    unfold getN
    rw [if_neg (by omega), if_neg (by omega)]
  have HE : Hid ((((getE 4 d : Int) == 0) = good (5, d))) := by
    show _ = decide (d.size = 4)
    unfold getE
    rcases Nat.lt_trichotomy d.size 4 with h | h | h
    · rw [if_pos h, decide_eq_false (by omega)]; rfl
    · rw [if_neg (by omega), if_neg (by omega), decide_eq_true h]; rfl
    · rw [if_neg (by omega), if_pos h, decide_eq_false (by omega)]; rfl
  have HC := Lib.hid (u32_cast hn)
  generalize getN 4 d = n at *
  generalize getE 4 d = er at *
  clear HG hn
  have hE := HE.out
  go_enter Tryz.func176, Tryz.ntmps176
  go_wp2_with fail
  refine (C1.out _).mono ?_
  rintro e w1 ⟨rfl, hb1⟩
  clear hW
  have HL1 := Lib.hid (HW.out.1.callee hb1)
  have HZ1 := Lib.hid (HW.out.2.1.callee hb1)
  have HB1 := Lib.hid (HW.out.2.2.trans (hb1.mono HW.out.2.2.size))
  clear hb1 HW C1
  obtain ⟨V, hV, HV⟩ : ∃ V, (w1.setCell ⟨w.heap.size, 5, none⟩ (.bool true)).setCell ⟨w.heap.size, 6, none⟩ (.int .u32 (n : Nat)) = V ∧ Hid (LAt V w.heap.size ({ x with hg := true, magic := UInt32.ofNat n } : Lcp) ∧ LAt V (w.heap.size + 1) lz ∧ Below w.heap.size w V) :=
    ⟨_, rfl, by have := (Blk.set HL1.out 5 (.bool true)).set 6 (.int .u32 (n : Nat)); rw [← HC.out] at this ⊢; exact this, Blk.moves HZ1.out (((Moves.refl (fun k => k = w.heap.size) w1).setCell ⟨w.heap.size, 5, none⟩ (fun _ => rfl) _).setCell ⟨w.heap.size, 6, none⟩ (fun _ => rfl) _) (by omega), HB1.out.trans ((((Moves.refl (fun k => k = w.heap.size) w1).setCell ⟨w.heap.size, 5, none⟩ (fun _ => rfl) _).setCell ⟨w.heap.size, 6, none⟩ (fun _ => rfl) _).below HB1.out.size (fun k e => by omega))⟩
  have f5 := HL1.out.f 5
  have e5 : w1.cell? ⟨w.heap.size, 5, none⟩ = some (.bool x.hg) := HL1.out.c 5
  have f6 := HL1.out.f 6
  have e6 : w1.cell? ⟨w.heap.size, 6, none⟩ = some (.int .u32 x.magic.toNat) := HL1.out.c 6
  have c0 : V.cell? ⟨w.heap.size, 0, none⟩ = some (Value.bool x.hm) := HV.out.1.c 0
  have g0 := HV.out.2.1.f 0
  have z0 : V.cell? ⟨w.heap.size + 1, 0, none⟩ = some (Value.bool false) := HV.out.2.1.c 0
  have c1 : V.cell? ⟨w.heap.size, 1, none⟩ = some (.int .u16 x.mru.toNat) := HV.out.1.c 1
  have g1 := HV.out.2.1.f 1
  have z1 : V.cell? ⟨w.heap.size + 1, 1, none⟩ = some (.int .u16 0) := HV.out.2.1.c 1
  have c2 : V.cell? ⟨w.heap.size, 2, none⟩ = some (.bool x.ha) := HV.out.1.c 2
  have g2 := HV.out.2.1.f 2
  have z2 : V.cell? ⟨w.heap.size + 1, 2, none⟩ = some (.bool false) := HV.out.2.1.c 2
  have c3 : V.cell? ⟨w.heap.size, 3, none⟩ = some (.int .u32 x.accm.toNat) := HV.out.1.c 3
  have g3 := HV.out.2.1.f 3
  have z3 : V.cell? ⟨w.heap.size + 1, 3, none⟩ = some (.int .u32 0) := HV.out.2.1.c 3
  have c4 : V.cell? ⟨w.heap.size, 4, none⟩ = some (.int .u8 x.auth.toNat) := HV.out.1.c 4
  have g4 := HV.out.2.1.f 4
  have z4 : V.cell? ⟨w.heap.size + 1, 4, none⟩ = some (.int .u8 0) := HV.out.2.1.c 4
  have c5 : V.cell? ⟨w.heap.size, 5, none⟩ = some (.bool true) := HV.out.1.c 5
  have g5 := HV.out.2.1.f 5
  have z5 : V.cell? ⟨w.heap.size + 1, 5, none⟩ = some (.bool false) := HV.out.2.1.c 5
  have c6 : V.cell? ⟨w.heap.size, 6, none⟩ = some (.int .u32 (n : Nat)) := (HV.out.1.c 6).trans (by show some _ = _; rw [← HC.out])
  have g6 := HV.out.2.1.f 6
  have z6 : V.cell? ⟨w.heap.size + 1, 6, none⟩ = some (.int .u32 0) := HV.out.2.1.c 6
  have c7 : V.cell? ⟨w.heap.size, 7, none⟩ = some (.bool x.pfc) := HV.out.1.c 7
  have g7 := HV.out.2.1.f 7
  have z7 : V.cell? ⟨w.heap.size + 1, 7, none⟩ = some (.bool false) := HV.out.2.1.c 7
  have c8 : V.cell? ⟨w.heap.size, 8, none⟩ = some (.bool x.acfc) := HV.out.1.c 8
  have g8 := HV.out.2.1.f 8
  have z8 : V.cell? ⟨w.heap.size + 1, 8, none⟩ = some (.bool false) := HV.out.2.1.c 8
  go_wp2
  rw [← HC.out]
  have HR := setL_blk (y := ({ x with hg := true, magic := UInt32.ofNat n } : Lcp)) HV.out.2.1
  have HBe := setL_below HV.out.2.2 HV.out.2.2.size (g := w.heap.size + 1) (by omega) (lv ({ x with hg := true, magic := UInt32.ofNat n } : Lcp))
  (try simp only [Exit.inBlock, Exit.then])
  refine bodyPost_ret (results_row1 rfl _ _ (w.heap.size + 1) (lv ({ x with hg := true, magic := UInt32.ofNat n } : Lcp)) _ _ rfl HR Tryz.underlying42 rfl (by kernel_rfl)) rfl ?_
  exact ⟨({ x with hg := true, magic := UInt32.ofNat n } : Lcp), rfl, HY.out, HBe⟩
set_option maxHeartbeats 2000000 in
set_option maxRecDepth 100000 in
theorem read7 (d : ByteArray) (x : Lcp) (w : World) (hd : d.size ≤ maxLen) : Calls Tryz.prog 178 #[.agg (lv x).toArray, .string d] w (ReadQ (7, d) x w) := by
  show Calls Tryz.prog 178 #[.agg #[Value.bool x.hm, .int .u16 x.mru.toNat, .bool x.ha, .int .u32 x.accm.toNat, .int .u8 x.auth.toNat, .bool x.hg, .int .u32 x.magic.toNat, .bool x.pfc, .bool x.acfc], .string d] w (ReadQ (7, d) x w)
  obtain ⟨W, hW, HW⟩ := boxL2 w x
  have HL1 := Lib.hid HW.out.1
  have HZ1 := Lib.hid HW.out.2.1
  have HB1 := Lib.hid HW.out.2.2
  clear HW
  have HY : Hid (({ x with pfc := true } : Lcp) = say x (7, d)) := rfl
  have hE : d.toList.isEmpty = good (7, d) := by
    show _ = decide (d.size = 0)
    rw [size_toList]
    cases d.toList <;> rfl
  have HE := Lib.hid hE
  clear hE
  obtain ⟨V, hV, HV⟩ : ∃ V, W.setCell ⟨w.heap.size, 7, none⟩ (.bool true) = V ∧ Hid (LAt V w.heap.size ({ x with pfc := true } : Lcp) ∧ LAt V (w.heap.size + 1) lz ∧ Below w.heap.size w V) :=
    ⟨_, rfl, Blk.set HL1.out 7 _, Blk.moves HZ1.out ((Moves.refl (fun k => k = w.heap.size) W).setCell ⟨w.heap.size, 7, none⟩ (fun _ => rfl) _) (by omega), HB1.out.trans (((Moves.refl (fun k => k = w.heap.size) W).setCell ⟨w.heap.size, 7, none⟩ (fun _ => rfl) _).below HB1.out.size (fun k e => by omega))⟩
  have f7 := HL1.out.f 7
  have e7 : W.cell? ⟨w.heap.size, 7, none⟩ = some (.bool x.pfc) := HL1.out.c 7
  have c0 : V.cell? ⟨w.heap.size, 0, none⟩ = some (Value.bool x.hm) := HV.out.1.c 0
  have g0 := HV.out.2.1.f 0
  have z0 : V.cell? ⟨w.heap.size + 1, 0, none⟩ = some (Value.bool false) := HV.out.2.1.c 0
  have c1 : V.cell? ⟨w.heap.size, 1, none⟩ = some (.int .u16 x.mru.toNat) := HV.out.1.c 1
  have g1 := HV.out.2.1.f 1
  have z1 : V.cell? ⟨w.heap.size + 1, 1, none⟩ = some (.int .u16 0) := HV.out.2.1.c 1
  have c2 : V.cell? ⟨w.heap.size, 2, none⟩ = some (.bool x.ha) := HV.out.1.c 2
  have g2 := HV.out.2.1.f 2
  have z2 : V.cell? ⟨w.heap.size + 1, 2, none⟩ = some (.bool false) := HV.out.2.1.c 2
  have c3 : V.cell? ⟨w.heap.size, 3, none⟩ = some (.int .u32 x.accm.toNat) := HV.out.1.c 3
  have g3 := HV.out.2.1.f 3
  have z3 : V.cell? ⟨w.heap.size + 1, 3, none⟩ = some (.int .u32 0) := HV.out.2.1.c 3
  have c4 : V.cell? ⟨w.heap.size, 4, none⟩ = some (.int .u8 x.auth.toNat) := HV.out.1.c 4
  have g4 := HV.out.2.1.f 4
  have z4 : V.cell? ⟨w.heap.size + 1, 4, none⟩ = some (.int .u8 0) := HV.out.2.1.c 4
  have c5 : V.cell? ⟨w.heap.size, 5, none⟩ = some (.bool x.hg) := HV.out.1.c 5
  have g5 := HV.out.2.1.f 5
  have z5 : V.cell? ⟨w.heap.size + 1, 5, none⟩ = some (.bool false) := HV.out.2.1.c 5
  have c6 : V.cell? ⟨w.heap.size, 6, none⟩ = some (.int .u32 x.magic.toNat) := HV.out.1.c 6
  have g6 := HV.out.2.1.f 6
  have z6 : V.cell? ⟨w.heap.size + 1, 6, none⟩ = some (.int .u32 0) := HV.out.2.1.c 6
  have c7 : V.cell? ⟨w.heap.size, 7, none⟩ = some (.bool true) := HV.out.1.c 7
  have g7 := HV.out.2.1.f 7
  have z7 : V.cell? ⟨w.heap.size + 1, 7, none⟩ = some (.bool false) := HV.out.2.1.c 7
  have c8 : V.cell? ⟨w.heap.size, 8, none⟩ = some (.bool x.acfc) := HV.out.1.c 8
  have g8 := HV.out.2.1.f 8
  have z8 : V.cell? ⟨w.heap.size + 1, 8, none⟩ = some (.bool false) := HV.out.2.1.c 8
  go_enter Tryz.func178, Tryz.ntmps178
  go_wp2
  clear hW
  have HR := setL_blk (y := ({ x with pfc := true } : Lcp)) HV.out.2.1
  have HBe := setL_below HV.out.2.2 HV.out.2.2.size (g := w.heap.size + 1) (by omega) (lv ({ x with pfc := true } : Lcp))
  (try simp only [Exit.inBlock, Exit.then])
  refine bodyPost_ret (results_row1 rfl _ _ (w.heap.size + 1) (lv ({ x with pfc := true } : Lcp)) _ _ rfl HR Tryz.underlying42 rfl (by kernel_rfl)) rfl ?_
  exact ⟨({ x with pfc := true } : Lcp), by rw [← HE.out]; rfl, fun _ => HY.out, HBe⟩
set_option maxHeartbeats 2000000 in
set_option maxRecDepth 100000 in
theorem read8 (d : ByteArray) (x : Lcp) (w : World) (hd : d.size ≤ maxLen) : Calls Tryz.prog 180 #[.agg (lv x).toArray, .string d] w (ReadQ (8, d) x w) := by
  show Calls Tryz.prog 180 #[.agg #[Value.bool x.hm, .int .u16 x.mru.toNat, .bool x.ha, .int .u32 x.accm.toNat, .int .u8 x.auth.toNat, .bool x.hg, .int .u32 x.magic.toNat, .bool x.pfc, .bool x.acfc], .string d] w (ReadQ (8, d) x w)
  obtain ⟨W, hW, HW⟩ := boxL2 w x
  have HL1 := Lib.hid HW.out.1
  have HZ1 := Lib.hid HW.out.2.1
  have HB1 := Lib.hid HW.out.2.2
  clear HW
  have HY : Hid (({ x with acfc := true } : Lcp) = say x (8, d)) := rfl
  have hE : d.toList.isEmpty = good (8, d) := by
    show _ = decide (d.size = 0)
    rw [size_toList]
    cases d.toList <;> rfl
  have HE := Lib.hid hE
  clear hE
  obtain ⟨V, hV, HV⟩ : ∃ V, W.setCell ⟨w.heap.size, 8, none⟩ (.bool true) = V ∧ Hid (LAt V w.heap.size ({ x with acfc := true } : Lcp) ∧ LAt V (w.heap.size + 1) lz ∧ Below w.heap.size w V) :=
    ⟨_, rfl, Blk.set HL1.out 8 _, Blk.moves HZ1.out ((Moves.refl (fun k => k = w.heap.size) W).setCell ⟨w.heap.size, 8, none⟩ (fun _ => rfl) _) (by omega), HB1.out.trans (((Moves.refl (fun k => k = w.heap.size) W).setCell ⟨w.heap.size, 8, none⟩ (fun _ => rfl) _).below HB1.out.size (fun k e => by omega))⟩
  have f8 := HL1.out.f 8
  have e8 : W.cell? ⟨w.heap.size, 8, none⟩ = some (.bool x.acfc) := HL1.out.c 8
  have c0 : V.cell? ⟨w.heap.size, 0, none⟩ = some (Value.bool x.hm) := HV.out.1.c 0
  have g0 := HV.out.2.1.f 0
  have z0 : V.cell? ⟨w.heap.size + 1, 0, none⟩ = some (Value.bool false) := HV.out.2.1.c 0
  have c1 : V.cell? ⟨w.heap.size, 1, none⟩ = some (.int .u16 x.mru.toNat) := HV.out.1.c 1
  have g1 := HV.out.2.1.f 1
  have z1 : V.cell? ⟨w.heap.size + 1, 1, none⟩ = some (.int .u16 0) := HV.out.2.1.c 1
  have c2 : V.cell? ⟨w.heap.size, 2, none⟩ = some (.bool x.ha) := HV.out.1.c 2
  have g2 := HV.out.2.1.f 2
  have z2 : V.cell? ⟨w.heap.size + 1, 2, none⟩ = some (.bool false) := HV.out.2.1.c 2
  have c3 : V.cell? ⟨w.heap.size, 3, none⟩ = some (.int .u32 x.accm.toNat) := HV.out.1.c 3
  have g3 := HV.out.2.1.f 3
  have z3 : V.cell? ⟨w.heap.size + 1, 3, none⟩ = some (.int .u32 0) := HV.out.2.1.c 3
  have c4 : V.cell? ⟨w.heap.size, 4, none⟩ = some (.int .u8 x.auth.toNat) := HV.out.1.c 4
  have g4 := HV.out.2.1.f 4
  have z4 : V.cell? ⟨w.heap.size + 1, 4, none⟩ = some (.int .u8 0) := HV.out.2.1.c 4
  have c5 : V.cell? ⟨w.heap.size, 5, none⟩ = some (.bool x.hg) := HV.out.1.c 5
  have g5 := HV.out.2.1.f 5
  have z5 : V.cell? ⟨w.heap.size + 1, 5, none⟩ = some (.bool false) := HV.out.2.1.c 5
  have c6 : V.cell? ⟨w.heap.size, 6, none⟩ = some (.int .u32 x.magic.toNat) := HV.out.1.c 6
  have g6 := HV.out.2.1.f 6
  have z6 : V.cell? ⟨w.heap.size + 1, 6, none⟩ = some (.int .u32 0) := HV.out.2.1.c 6
  have c7 : V.cell? ⟨w.heap.size, 7, none⟩ = some (.bool x.pfc) := HV.out.1.c 7
  have g7 := HV.out.2.1.f 7
  have z7 : V.cell? ⟨w.heap.size + 1, 7, none⟩ = some (.bool false) := HV.out.2.1.c 7
  have c8 : V.cell? ⟨w.heap.size, 8, none⟩ = some (.bool true) := HV.out.1.c 8
  have g8 := HV.out.2.1.f 8
  have z8 : V.cell? ⟨w.heap.size + 1, 8, none⟩ = some (.bool false) := HV.out.2.1.c 8
  go_enter Tryz.func180, Tryz.ntmps180
  go_wp2
  clear hW
  have HR := setL_blk (y := ({ x with acfc := true } : Lcp)) HV.out.2.1
  have HBe := setL_below HV.out.2.2 HV.out.2.2.size (g := w.heap.size + 1) (by omega) (lv ({ x with acfc := true } : Lcp))
  (try simp only [Exit.inBlock, Exit.then])
  refine bodyPost_ret (results_row1 rfl _ _ (w.heap.size + 1) (lv ({ x with acfc := true } : Lcp)) _ _ rfl HR Tryz.underlying42 rfl (by kernel_rfl)) rfl ?_
  exact ⟨({ x with acfc := true } : Lcp), by rw [← HE.out]; rfl, fun _ => HY.out, HBe⟩
end Go.Proofs.YtpppggicihfbgaaGreat.Lco

/- A policy in a block. -/
namespace Go.Proofs.YtpppggicihfbgaaGreat.Pol
open Go.RowKit Go.Proofs.YtpppggicihfbgaaGreat.Oct Go.Proofs.YtpppggicihfbgaaGreat.Row Go.Proofs.YtpppggicihfbgaaGreat.Mem Go.Proofs.YtpppggicihfbgaaGreat.Opt Go.Proofs.YtpppggicihfbgaaGreat.Lco

def PAt (w : World) (g : Nat) (p : Po) : Prop := Blk w g (pv p) 78
theorem PAt.lt {w : World} {g : Nat} {p : Po} (h : PAt w g p) : g < w.heap.size := Blk.lt h
theorem PAt.c {w : World} {g : Nat} {p : Po} (h : PAt w g p) (i : Nat) : w.cell? ⟨g, i, none⟩ = (pv p)[i]? := Blk.at_ h i
theorem PAt.f {w : World} {g : Nat} {p : Po} (h : PAt w g p) (i : Nat) : w.frozen? ⟨g, i, none⟩ = false := Blk.frozen h i
theorem PAt.moves {S : Nat → Prop} {w w' : World} {g : Nat} {p : Po} (h : PAt w g p) (hm : Moves S w w') (hs : ¬ S g) : PAt w' g p := Blk.moves h hm hs
theorem PAt.callee {w w' : World} {g : Nat} {p : Po} (h : PAt w g p) (hb : Below w.heap.size w w') : PAt w' g p := Blk.callee h hb
theorem PAt.below {w w' : World} {g n : Nat} {p : Po} (h : PAt w g p) (hb : Below n w w') (hg : g < n) : PAt w' g p := Blk.below h hb hg
theorem PAt.alloc {w : World} {g : Nat} {p : Po} (h : PAt w g p) (o : Obj) : PAt (w.alloc o) g p := Blk.alloc h o
theorem PAt.drewN {w : World} {g : Nat} {p : Po} (h : PAt w g p) (k : Nat) : PAt (w.drewN k) g p := h
theorem set_moves (w : World) (g i : Nat) (v : Value) : Moves (fun k => k = g) w (w.setCell ⟨g, i, none⟩ v) := ⟨rfl, rfl, rfl, by simp [World.setCell], fun k _ hk => Below.heap_setCell _ _ _ _ hk⟩
theorem sets_moves (g : Nat) : ∀ (vs : List Value) (w : World) (i : Nat), Moves (fun k => k = g) w (w.setCells g i vs)
  | [], w, _ => Moves.refl _ w
  | v :: vs, w, i => (set_moves w g i v).trans (sets_moves g vs _ _) (fun _ _ h => h)
theorem Blk.mid {w : World} {g : Nat} {cs : List Value} {t : TypeId} (h : Blk w g cs t) (o n : Nat) : w.rangeAt g o ((cs.drop o).take n) := fun j v hv => by
  obtain ⟨hj, _⟩ := List.getElem?_eq_some_iff.1 hv
  rw [List.length_take] at hj
  rw [List.getElem?_take_of_lt (by omega), List.getElem?_drop] at hv
  rw [Blk.at_ h, hv]
theorem PAt.mine {w : World} {g : Nat} {p : Po} (h : PAt w g p) : w.rangeAt g 19 (lv p.mine) := Blk.mid h 19 9
theorem PAt.peer {w : World} {g : Nat} {p : Po} (h : PAt w g p) : w.rangeAt g 28 (lv p.peer) := Blk.mid h 28 9
theorem PAt.setMine {w : World} {g : Nat} {p : Po} (h : PAt w g p) (x : Lcp) : PAt (w.setCells g 19 (lv x)) g { p with mine := x } :=
  ((((((((Blk.set h 19 (.bool x.hm)).set 20 (.int .u16 x.mru.toNat)).set 21 (.bool x.ha)).set 22 (.int .u32 x.accm.toNat)).set 23 (.int .u8 x.auth.toNat)).set 24 (.bool x.hg)).set 25 (.int .u32 x.magic.toNat)).set 26 (.bool x.pfc)).set 27 (.bool x.acfc)
theorem PAt.setPeer {w : World} {g : Nat} {p : Po} (h : PAt w g p) (x : Lcp) : PAt (w.setCells g 28 (lv x)) g { p with peer := x } :=
  ((((((((Blk.set h 28 (.bool x.hm)).set 29 (.int .u16 x.mru.toNat)).set 30 (.bool x.ha)).set 31 (.int .u32 x.accm.toNat)).set 32 (.int .u8 x.auth.toNat)).set 33 (.bool x.hg)).set 34 (.int .u32 x.magic.toNat)).set 35 (.bool x.pfc)).set 36 (.bool x.acfc)
theorem PAt.setMru {w : World} {g : Nat} {p : Po} (h : PAt w g p) (v : UInt16) : PAt (w.setCell ⟨g, 1, none⟩ (.int .u16 v.toNat)) g { p with w := { p.w with mru := v } } := Blk.set h 1 (.int .u16 v.toNat)
theorem PAt.setAccm {w : World} {g : Nat} {p : Po} (h : PAt w g p) (v : UInt32) : PAt (w.setCell ⟨g, 3, none⟩ (.int .u32 v.toNat)) g { p with w := { p.w with accm := v } } := Blk.set h 3 (.int .u32 v.toNat)
theorem PAt.setAuth {w : World} {g : Nat} {p : Po} (h : PAt w g p) (v : UInt8) : PAt (w.setCell ⟨g, 4, none⟩ (.int .u8 v.toNat)) g { p with w := { p.w with auth := v } } := Blk.set h 4 (.int .u8 v.toNat)
theorem PAt.setMagic {w : World} {g : Nat} {p : Po} (h : PAt w g p) (v : UInt32) : PAt (w.setCell ⟨g, 6, none⟩ (.int .u32 v.toNat)) g { p with w := { p.w with magic := v } } := Blk.set h 6 (.int .u32 v.toNat)
theorem PAt.setNaks {w : World} {g : Nat} {p : Po} (h : PAt w g p) (n : Nat) : PAt (w.setCell ⟨g, 37, none⟩ (.int .i64 n)) g { p with naks := n } := Blk.set h 37 (.int .i64 n)
theorem PAt.setLoops {w : World} {g : Nat} {p : Po} (h : PAt w g p) (n : Nat) : PAt (w.setCell ⟨g, 38, none⟩ (.int .i64 n)) g { p with loops := n } := Blk.set h 38 (.int .i64 n)
theorem PAt.wish {w : World} {g : Nat} {p : Po} (h : PAt w g p) : w.cell? ⟨g, 0, none⟩ = some (Value.bool p.w.hm) ∧ w.cell? ⟨g, 1, none⟩ = some (.int .u16 p.w.mru.toNat) ∧ w.cell? ⟨g, 2, none⟩ = some (.bool p.w.ha) ∧ w.cell? ⟨g, 3, none⟩ = some (.int .u32 p.w.accm.toNat) ∧ w.cell? ⟨g, 4, none⟩ = some (.int .u8 p.w.auth.toNat) ∧ w.cell? ⟨g, 5, none⟩ = some (.bool p.w.hg) ∧ w.cell? ⟨g, 6, none⟩ = some (.int .u32 p.w.magic.toNat) ∧ w.cell? ⟨g, 7, none⟩ = some (.bool p.w.pfc) ∧ w.cell? ⟨g, 8, none⟩ = some (.bool p.w.acfc) :=
  ⟨h.c 0, h.c 1, h.c 2, h.c 3, h.c 4, h.c 5, h.c 6, h.c 7, h.c 8⟩
theorem res_lcp {f : Func} {p : Nat} {ty : TypeId} (hf : f.results = #[.cell p ty]) (tmps : Array Value) (W : World) (g : Nat) (x : Lcp) (hp : tmps.getD p undef = .pointer (some ⟨g, 0, none⟩)) (h : LAt W g x) (hu : Tryz.prog.underlying ty = Tryz.prog.underlying 42) (hi : (Tryz.prog.info? ty).map (·.size) = some 9) :
    (results f tmps).run Tryz.prog W = .ok (.agg (lv x).toArray) W := by
  rw [Tryz.underlying42] at hu
  exact results_cell_row hf tmps W g _ _ _ _ hp h hu rfl hi
end Go.Proofs.YtpppggicihfbgaaGreat.Pol

/- Contracts: nonZero, isOwn, good, betterMru, betterAuth, betterMagic. -/
namespace Go.Proofs.YtpppggicihfbgaaGreat.Pol
open Go.RowKit Go.Proofs.YtpppggicihfbgaaGreat.Oct Go.Proofs.YtpppggicihfbgaaGreat.Row Go.Proofs.YtpppggicihfbgaaGreat.Mem Go.Proofs.YtpppggicihfbgaaGreat.Opt Go.Proofs.YtpppggicihfbgaaGreat.Lco

set_option maxHeartbeats 400000 in
set_option maxRecDepth 100000 in
theorem nz_any (v : UInt32) (w : World) : Calls Tryz.prog 40 #[.int .u32 v.toNat] w fun e w' => e = .returned (.int .u32 (nz v).toNat) ∧ w = w' := by
  by_cases h : v = 0
  · subst h
    go_enter Tryz.func40, Tryz.ntmps40
    go_wp2
    go_ret
    exact ⟨rfl, rfl⟩
  · have HE : Hid (nz v = v) := if_neg h
    have h1 : 1 ≤ v.toNat := by
      rcases Nat.eq_zero_or_pos v.toNat with h0 | h0
      · exact absurd (UInt32.toNat_inj.1 h0) h
      · exact h0
    have hd : decide ((v.toNat : Int) < 1) = false := decide_eq_false (by omega)
    have hd2 : ¬ ((v.toNat : Int) < 1) := by omega
    clear h h1
    go_enter Tryz.func40, Tryz.ntmps40
    go_wp2
    go_ret
    exact ⟨by rw [HE.out] <;> rfl, rfl⟩
set_option maxHeartbeats 2000000 in
set_option maxRecDepth 100000 in
theorem own_any (g : Nat) (p : Po) (x : Lcp) (w : World) (h : PAt w g p) : Calls Tryz.prog 137 #[.pointer (some ⟨g, 0, none⟩), .agg (lv x).toArray] w fun e w' => e = .returned (.bool (isOwn p.w x)) ∧ Below w.heap.size w w' := by
  show Calls Tryz.prog 137 #[.pointer (some ⟨g, 0, none⟩), .agg #[Value.bool x.hm, .int .u16 x.mru.toNat, .bool x.ha, .int .u32 x.accm.toNat, .int .u8 x.auth.toNat, .bool x.hg, .int .u32 x.magic.toNat, .bool x.pfc, .bool x.acfc]] w fun e w' => e = .returned (.bool (isOwn p.w x)) ∧ Below w.heap.size w w'
  obtain ⟨W, hW, HW⟩ := boxL w x
  have HP : Hid (PAt W g p) := h.callee HW.out.2.1
  have p5 : W.cell? ⟨g, 5, none⟩ = some (.bool p.w.hg) := HP.out.c 5
  have p6 : W.cell? ⟨g, 6, none⟩ = some (.int .u32 p.w.magic.toNat) := HP.out.c 6
  have x5 : W.cell? ⟨w.heap.size, 5, none⟩ = some (.bool x.hg) := HW.out.1.c 5
  have x6 : W.cell? ⟨w.heap.size, 6, none⟩ = some (.int .u32 x.magic.toNat) := HW.out.1.c 6
  have HB := Lib.hid HW.out.2.1
  have he : ((x.magic.toNat : Int) == (p.w.magic.toNat : Int)) = (x.magic == p.w.magic) := by
    rw [Bool.eq_iff_iff, beq_iff_eq, beq_iff_eq]
    exact ⟨fun e => UInt32.toNat_inj.1 (by omega), fun e => by rw [e]⟩
  have HO : Hid (isOwn p.w x = (p.w.hg && x.hg && (x.magic == p.w.magic))) := rfl
  rw [HO.out]
  generalize (x.magic == p.w.magic) = b at *
  generalize p.w.hg = b1 at *
  generalize x.hg = b2 at *
  clear h HO
  cases b1
  · go_enter Tryz.func137, Tryz.ntmps137
    go_wp2
    clear hW
    go_quiet (fail)
    go_wp2
    go_ret
    exact ⟨rfl, HB.out.drewN' _⟩
  · cases b2
    · go_enter Tryz.func137, Tryz.ntmps137
      go_wp2
      clear hW
      go_quiet (fail)
      go_wp2
      go_ret
      exact ⟨rfl, HB.out.drewN' _⟩
    · go_enter Tryz.func137, Tryz.ntmps137
      go_wp2
      clear hW
      go_quiet (fail)
      go_wp2
      go_ret
      exact ⟨rfl, HB.out.drewN' _⟩

def BetQ (y : Lcp) (w : World) (e : Ending) (w' : World) : Prop := e = .returned (.agg (lv y).toArray) ∧ Below w.heap.size w w'
set_option maxRecDepth 100000 in
theorem lcp_size (x : Lcp) : (Tryz.prog.info? 42).map (·.size) = some (lv x).toArray.size := by
  rw [List.size_toArray]
  kernel_rfl
theorem lv_one (x : Lcp) : (lv x).toArray.all (·.oneCell') = true := by
  refine all_oneCell_toArray fun v hv => ?_
  unfold lv at hv
  simp only [List.mem_cons, List.not_mem_nil, or_false] at hv
  rcases hv with rfl | rfl | rfl | rfl | rfl | rfl | rfl | rfl | rfl <;> rfl
theorem LAt.setMru {W : World} {g : Nat} {x : Lcp} (h : LAt W g x) (v : UInt16) : LAt (W.setCell ⟨g, 1, none⟩ (.int .u16 v.toNat)) g { x with mru := v } := Blk.set h 1 (.int .u16 v.toNat)
theorem LAt.setAuth {W : World} {g : Nat} {x : Lcp} (h : LAt W g x) (v : UInt8) : LAt (W.setCell ⟨g, 4, none⟩ (.int .u8 v.toNat)) g { x with auth := v } := Blk.set h 4 (.int .u8 v.toNat)
theorem LAt.setMagic {W : World} {g : Nat} {x : Lcp} (h : LAt W g x) (v : UInt32) : LAt (W.setCell ⟨g, 6, none⟩ (.int .u32 v.toNat)) g { x with magic := v } := Blk.set h 6 (.int .u32 v.toNat)
theorem LAt.moves {S : Nat → Prop} {w w' : World} {g : Nat} {x : Lcp} (h : LAt w g x) (hm : Moves S w w') (hs : ¬ S g) : LAt w' g x := Blk.moves h hm hs
theorem lat_row {W : World} {g : Nat} {x : Lcp} (h : LAt W g x) (y : Lcp) : LAt (W.setRow g (lv y).toArray) g y := Blk.setRow h (lv y)
set_option maxRecDepth 100000 in
theorem bet_res {f : Func} {p g0 : Nat} (hf : f.results = #[.cell p 42]) (tmps : Array Value) {W : World} {z : Lcp} (y : Lcp) (h : LAt W g0 z) (hp : tmps.getD p undef = .pointer (some ⟨g0, 0, none⟩)) :
    (results f tmps).run Tryz.prog (W.setRow g0 (lv y).toArray) = .ok (.agg (lv y).toArray) (W.setRow g0 (lv y).toArray) := res_lcp hf tmps _ g0 y hp (lat_row h y) rfl (by kernel_rfl)
theorem bet_q {w W : World} {g0 : Nat} (y : Lcp) (hB : Below w.heap.size w W) (hg : w.heap.size ≤ g0) : BetQ y w (.returned (.agg (lv y).toArray)) (W.setRow g0 (lv y).toArray) :=
  ⟨rfl, hB.trans ((moves_row W g0 _).below hB.size fun k e => by rw [e]; exact hg)⟩
set_option maxHeartbeats 1000000 in
set_option maxRecDepth 100000 in
theorem good_bet (v : Value) (x : Lcp) (w : World) : Calls Tryz.prog 147 #[v, .agg (lv x).toArray] w (BetQ x w) := by
  show Calls Tryz.prog 147 #[v, .agg #[Value.bool x.hm, .int .u16 x.mru.toNat, .bool x.ha, .int .u32 x.accm.toNat, .int .u8 x.auth.toNat, .bool x.hg, .int .u32 x.magic.toNat, .bool x.pfc, .bool x.acfc]] w (BetQ x w)
  obtain ⟨W, hW, HW⟩ := boxL2 w x
  have HL := Lib.hid HW.out.1
  have HZ := Lib.hid HW.out.2.1
  have HB := Lib.hid HW.out.2.2
  have HN := Lib.hid (lcp_size x)
  go_enter Tryz.func147, Tryz.ntmps147
  go_wp2_with (first
    | (refine wpList_load_row rfl 42 _ rfl w.heap.size rfl 42 (lv x).toArray (0, 0) _ HL.out Tryz.underlying42 rfl HN.out ?_)
    | (refine wpList_store_row rfl 42 _ _ rfl (w.heap.size + 1) (lv x).toArray rfl rfl 42 _ HZ.out HN.out rfl (lv_one x) ?_))
  (try simp only [Exit.inBlock, Exit.then])
  refine bodyPost_ret (bet_res rfl _ x HZ.out rfl) rfl ?_
  exact bet_q x HB.out (Nat.le_succ _)

set_option maxHeartbeats 1000000 in
set_option maxRecDepth 100000 in
theorem bet_mru (v : Value) (p : Po) (x : Lcp) (w : World) : Calls Tryz.prog 144 #[v, .agg (lv x).toArray] w (BetQ (bet p 1 x) w) := by
  show Calls Tryz.prog 144 #[v, .agg #[Value.bool x.hm, .int .u16 x.mru.toNat, .bool x.ha, .int .u32 x.accm.toNat, .int .u8 x.auth.toNat, .bool x.hg, .int .u32 x.magic.toNat, .bool x.pfc, .bool x.acfc]] w (BetQ { x with mru := if x.mru < 64 then 64 else x.mru } w)
  obtain ⟨r, hr⟩ : ∃ r : UInt16, (if x.mru < 64 then 64 else x.mru) = r := ⟨_, rfl⟩
  rw [hr]
  obtain ⟨y, hy⟩ : ∃ y : Lcp, { x with mru := r } = y := ⟨_, rfl⟩
  rw [hy]
  have HN := Lib.hid (lcp_size y)
  obtain ⟨W, hW, HW⟩ := boxL2 w x
  have HL := Lib.hid HW.out.1
  have HZ := Lib.hid HW.out.2.1
  have HB := Lib.hid HW.out.2.2
  have c1 : W.cell? ⟨w.heap.size, 1, none⟩ = some (.int .u16 x.mru.toNat) := HL.out.c 1
  have f1 := HL.out.f 1
  have HLY := Lib.hid (LAt.setMru HL.out r)
  have HZY : Hid (LAt (W.setCell ⟨w.heap.size, 1, none⟩ (.int .u16 r.toNat)) (w.heap.size + 1) lz) := LAt.moves HZ.out (set_moves _ _ _ _) (by omega)
  have HBY : Hid (Below w.heap.size w (W.setCell ⟨w.heap.size, 1, none⟩ (.int .u16 r.toNat))) := HB.out.trans ((set_moves _ _ _ _).below HB.out.size (fun k e => by omega))
  rw [hy] at HLY
  clear hy
  by_cases hlt : x.mru < 64
  · rw [if_pos hlt] at hr
    subst hr
    have h1 : x.mru.toNat < 64 := UInt16.lt_iff_toNat_lt.1 hlt
    have h2 : (x.mru.toNat : Int) < 64 := by omega
    have h3 := decide_eq_true h2
    rw [show (64 : UInt16).toNat = 64 from rfl] at HLY HZY HBY
    clear h1 hlt
    go_enter Tryz.func144, Tryz.ntmps144
    go_wp2_with (first
    | (refine wpList_load_row rfl 42 _ rfl w.heap.size rfl 42 (lv y).toArray (0, 0) _ HLY.out Tryz.underlying42 rfl HN.out ?_)
    | (refine wpList_store_row rfl 42 _ _ rfl (w.heap.size + 1) (lv y).toArray rfl rfl 42 _ HZY.out HN.out rfl (lv_one _) ?_))
    (try simp only [Exit.inBlock, Exit.then])
    refine bodyPost_ret (bet_res rfl _ y HZY.out rfl) rfl ?_
    exact bet_q y HBY.out (Nat.le_succ _)
  · rw [if_neg hlt] at hr
    by_cases he : x.mru = 64
    · rw [he] at c1
      rw [he] at hr
      subst hr
      rw [show (64 : UInt16).toNat = 64 from rfl] at HLY HZY HBY c1
      clear he hlt
      go_enter Tryz.func144, Tryz.ntmps144
      go_wp2_with (first
    | (refine wpList_load_row rfl 42 _ rfl w.heap.size rfl 42 (lv y).toArray (0, 0) _ HLY.out Tryz.underlying42 rfl HN.out ?_)
    | (refine wpList_store_row rfl 42 _ _ rfl (w.heap.size + 1) (lv y).toArray rfl rfl 42 _ HZY.out HN.out rfl (lv_one _) ?_))
      (try simp only [Exit.inBlock, Exit.then])
      refine bodyPost_ret (bet_res rfl _ y HZY.out rfl) rfl ?_
      exact bet_q y HBY.out (Nat.le_succ _)
    · have h1 : 64 < x.mru.toNat := by
        rcases Nat.lt_trichotomy x.mru.toNat 64 with h | h | h
        · exact absurd (UInt16.lt_iff_toNat_lt.2 h) hlt
        · exact absurd (UInt16.toNat_inj.1 h) he
        · exact h
      have h2 : (64 : Int) < (x.mru.toNat : Int) := by omega
      have h3 := decide_eq_true h2
      have h5 : decide ((x.mru.toNat : Int) < 64) = false := decide_eq_false (by omega)
      rw [← hr] at HLY HZY HBY
      clear h1 hlt he hr
      generalize x.mru.toNat = m at *
      go_enter Tryz.func144, Tryz.ntmps144
      go_wp2_with (first
    | (refine wpList_load_row rfl 42 _ rfl w.heap.size rfl 42 (lv y).toArray (0, 0) _ HLY.out Tryz.underlying42 rfl HN.out ?_)
    | (refine wpList_store_row rfl 42 _ _ rfl (w.heap.size + 1) (lv y).toArray rfl rfl 42 _ HZY.out HN.out rfl (lv_one _) ?_))
      (try simp only [Exit.inBlock, Exit.then])
      refine bodyPost_ret (bet_res rfl _ y HZY.out rfl) rfl ?_
      exact bet_q y HBY.out (Nat.le_succ _)
end Go.Proofs.YtpppggicihfbgaaGreat.Pol

/- Contracts of betterAuth and betterMagic. -/
namespace Go.Proofs.YtpppggicihfbgaaGreat.Pol
open Go.RowKit Go.Proofs.YtpppggicihfbgaaGreat.Oct Go.Proofs.YtpppggicihfbgaaGreat.Row Go.Proofs.YtpppggicihfbgaaGreat.Mem Go.Proofs.YtpppggicihfbgaaGreat.Opt Go.Proofs.YtpppggicihfbgaaGreat.Lco

theorem u8_bits (a b : UInt8) : (bits .and .u8 (a.toNat : Int) (b.toNat : Int) != 0) = (a &&& b != 0) := by
  rw [u8_and_nat _ _ a.toNat_lt b.toNat_lt, ← UInt8.toNat_and]
  generalize a &&& b = q
  rw [Bool.eq_iff_iff, bne_iff_ne, bne_iff_ne]
  exact ⟨fun h e => h (by rw [e]; rfl), fun h e => h (UInt8.toNat_inj.1 (by show q.toNat = 0; omega))⟩

set_option maxHeartbeats 2000000 in
set_option maxRecDepth 100000 in
theorem bet_auth (g : Nat) (p : Po) (x : Lcp) (w : World) (h : PAt w g p) : Calls Tryz.prog 150 #[.pointer (some ⟨g, 0, none⟩), .agg (lv x).toArray] w (BetQ (bet p 3 x) w) := by
  show Calls Tryz.prog 150 #[.pointer (some ⟨g, 0, none⟩), .agg #[Value.bool x.hm, .int .u16 x.mru.toNat, .bool x.ha, .int .u32 x.accm.toNat, .int .u8 x.auth.toNat, .bool x.hg, .int .u32 x.magic.toNat, .bool x.pfc, .bool x.acfc]] w (BetQ { x with auth := if p.c.can &&& x.auth != 0 then x.auth else if p.c.can &&& 2 != 0 then 2 else 1 } w)
  obtain ⟨r, hr⟩ : ∃ r : UInt8, (if p.c.can &&& x.auth != 0 then x.auth else if p.c.can &&& 2 != 0 then 2 else 1) = r := ⟨_, rfl⟩
  rw [hr]
  obtain ⟨y, hy⟩ : ∃ y : Lcp, { x with auth := r } = y := ⟨_, rfl⟩
  rw [hy]
  have HN := Lib.hid (lcp_size y)
  obtain ⟨W, hW, HW⟩ := boxL2 w x
  have HL := Lib.hid HW.out.1
  have HZ := Lib.hid HW.out.2.1
  have HB := Lib.hid HW.out.2.2
  have hP : PAt W g p := h.callee HB.out
  have p14 : W.cell? ⟨g, 14, none⟩ = some (.int .u8 p.c.can.toNat) := hP.c 14
  have c4 : W.cell? ⟨w.heap.size, 4, none⟩ = some (.int .u8 x.auth.toNat) := HL.out.c 4
  have f4 := HL.out.f 4
  have HLY := Lib.hid (LAt.setAuth HL.out r)
  have HZY : Hid (LAt (W.setCell ⟨w.heap.size, 4, none⟩ (.int .u8 r.toNat)) (w.heap.size + 1) lz) := LAt.moves HZ.out (set_moves _ _ _ _) (by omega)
  have HBY : Hid (Below w.heap.size w (W.setCell ⟨w.heap.size, 4, none⟩ (.int .u8 r.toNat))) := HB.out.trans ((set_moves _ _ _ _).below HB.out.size (fun k e => by omega))
  have u1 := u8_bits p.c.can x.auth
  have u2 := u8_bits p.c.can 2
  rw [show (((2 : UInt8).toNat : Nat) : Int) = 2 from rfl] at u2
  rw [hy] at HLY
  clear h hP
  cases h1 : (p.c.can &&& x.auth != 0)
  · rw [h1] at hr u1
    cases h2 : (p.c.can &&& 2 != 0)
    · rw [h2] at hr u2
      simp only [Bool.false_eq_true, if_false] at hr
      subst hr
      rw [show (1 : UInt8).toNat = 1 from rfl] at HLY HZY HBY
      clear h1 h2 hy
      go_enter Tryz.func150, Tryz.ntmps150
      go_wp2_with (first
    | (refine wpList_load_row rfl 42 _ rfl w.heap.size rfl 42 (lv y).toArray (0, 0) _ HLY.out Tryz.underlying42 rfl HN.out ?_)
    | (refine wpList_store_row rfl 42 _ _ rfl (w.heap.size + 1) (lv y).toArray rfl rfl 42 _ HZY.out HN.out rfl (lv_one _) ?_))
      (try simp only [Exit.inBlock, Exit.then])
      refine bodyPost_ret (bet_res rfl _ y HZY.out rfl) rfl ?_
      exact bet_q y HBY.out (Nat.le_succ _)
    · rw [h2] at hr u2
      simp only [Bool.false_eq_true, if_false, if_true] at hr
      subst hr
      rw [show (2 : UInt8).toNat = 2 from rfl] at HLY HZY HBY
      clear h1 h2 hy
      go_enter Tryz.func150, Tryz.ntmps150
      go_wp2_with (first
    | (refine wpList_load_row rfl 42 _ rfl w.heap.size rfl 42 (lv y).toArray (0, 0) _ HLY.out Tryz.underlying42 rfl HN.out ?_)
    | (refine wpList_store_row rfl 42 _ _ rfl (w.heap.size + 1) (lv y).toArray rfl rfl 42 _ HZY.out HN.out rfl (lv_one _) ?_))
      (try simp only [Exit.inBlock, Exit.then])
      refine bodyPost_ret (bet_res rfl _ y HZY.out rfl) rfl ?_
      exact bet_q y HBY.out (Nat.le_succ _)
  · rw [h1] at hr u1
    simp only [if_true] at hr
    subst hr
    have HLX : Hid (LAt W w.heap.size y) := by show LAt _ _ _; rw [← hy]; exact HL.out
    clear h1 hy HLY HZY HBY
    go_enter Tryz.func150, Tryz.ntmps150
    go_wp2_with (first
    | (refine wpList_load_row rfl 42 _ rfl w.heap.size rfl 42 (lv y).toArray (0, 0) _ HLX.out Tryz.underlying42 rfl HN.out ?_)
    | (refine wpList_store_row rfl 42 _ _ rfl (w.heap.size + 1) (lv y).toArray rfl rfl 42 _ HZ.out HN.out rfl (lv_one _) ?_))
    (try simp only [Exit.inBlock, Exit.then])
    refine bodyPost_ret (bet_res rfl _ y HZ.out rfl) rfl ?_
    exact bet_q y HB.out (Nat.le_succ _)
end Go.Proofs.YtpppggicihfbgaaGreat.Pol

/- Contract of betterMagic. -/
namespace Go.Proofs.YtpppggicihfbgaaGreat.Pol
open Go.RowKit Go.Proofs.YtpppggicihfbgaaGreat.Oct Go.Proofs.YtpppggicihfbgaaGreat.Row Go.Proofs.YtpppggicihfbgaaGreat.Mem Go.Proofs.YtpppggicihfbgaaGreat.Opt Go.Proofs.YtpppggicihfbgaaGreat.Lco

theorem u32_zero (v : UInt32) : ((v.toNat : Int) != 0) = (v != 0) := by
  rw [Bool.eq_iff_iff, bne_iff_ne, bne_iff_ne]
  exact ⟨fun h e => h (by rw [e]; rfl), fun h e => h (UInt32.toNat_inj.1 (by show v.toNat = 0; omega))⟩
theorem u32_not (v : UInt32) : bits .xor .u32 IntKind.u32.max (v.toNat : Int) = ((~~~ v).toNat : Int) := by
  have e : ~~~ v = 4294967295 ^^^ v := by
    apply UInt32.eq_of_toBitVec_eq
    exact (BitVec.allOnes_xor (x := v.toBitVec)).symm
  rw [e, UInt32.toNat_xor]
  exact u32_xor_nat 4294967295 v.toNat (by decide) v.toNat_lt
structure Mg (w W : World) (g : Nat) (p : Po) (x : Lcp) : Prop where
  a : LAt W w.heap.size x
  z : LAt W (w.heap.size + 1) lz
  p : PAt W g p
  b : Below w.heap.size w W
theorem Mg.callee {w W W' : World} {g : Nat} {p : Po} {x : Lcp} (h : Mg w W g p x) (hb : Below W.heap.size W W') : Mg w W' g p x :=
  ⟨h.a.callee hb, h.z.callee hb, h.p.callee hb, h.b.trans (hb.mono h.b.size)⟩
theorem Mg.set {w W : World} {g : Nat} {p : Po} {x : Lcp} (h : Mg w W g p x) (v : UInt32) (hg : g < w.heap.size) : Mg w (W.setCell ⟨w.heap.size, 6, none⟩ (.int .u32 v.toNat)) g p { x with magic := v } :=
  ⟨LAt.setMagic h.a v, LAt.moves h.z (set_moves _ _ _ _) (by omega), h.p.moves (set_moves _ _ _ _) (by omega), h.b.trans ((set_moves _ _ _ _).below h.b.size (fun k e => by omega))⟩
theorem cells8 {W : World} {g : Nat} {x : Lcp} (h : LAt W g x) : W.cell? ⟨g, 0, none⟩ = some (Value.bool x.hm) ∧ W.cell? ⟨g, 1, none⟩ = some (.int .u16 x.mru.toNat) ∧ W.cell? ⟨g, 2, none⟩ = some (.bool x.ha) ∧ W.cell? ⟨g, 3, none⟩ = some (.int .u32 x.accm.toNat) ∧ W.cell? ⟨g, 4, none⟩ = some (.int .u8 x.auth.toNat) ∧ W.cell? ⟨g, 5, none⟩ = some (.bool x.hg) ∧ W.cell? ⟨g, 7, none⟩ = some (.bool x.pfc) ∧ W.cell? ⟨g, 8, none⟩ = some (.bool x.acfc) := ⟨h.c 0, h.c 1, h.c 2, h.c 3, h.c 4, h.c 5, h.c 7, h.c 8⟩
set_option maxHeartbeats 4000000 in
set_option maxRecDepth 100000 in
theorem bet_magic (g : Nat) (p : Po) (x : Lcp) (w : World) (h : PAt w g p) : Calls Tryz.prog 153 #[.pointer (some ⟨g, 0, none⟩), .agg (lv x).toArray] w (BetQ (bet p 5 x) w) := by
  show Calls Tryz.prog 153 #[.pointer (some ⟨g, 0, none⟩), .agg #[Value.bool x.hm, .int .u16 x.mru.toNat, .bool x.ha, .int .u32 x.accm.toNat, .int .u8 x.auth.toNat, .bool x.hg, .int .u32 x.magic.toNat, .bool x.pfc, .bool x.acfc]] w (BetQ (if x.magic != 0 && !isOwn p.w x then x else if isOwn p.w { x with magic := nz (~~~ x.magic) } then { x with magic := 1 } else { x with magic := nz (~~~ x.magic) }) w)
  have hgl := h.lt
  obtain ⟨W, hW, HW⟩ := boxL2 w x
  have HM : Hid (Mg w W g p x) := ⟨HW.out.1, HW.out.2.1, h.callee HW.out.2.2, HW.out.2.2⟩
  have c6 : W.cell? ⟨w.heap.size, 6, none⟩ = some (.int .u32 x.magic.toNat) := HM.out.a.c 6
  have f6 := HM.out.a.f 6
  have hz := u32_zero x.magic
  have hn := u32_not x.magic
  have HNZ : Hid (∀ w, Calls Tryz.prog 40 #[.int .u32 (~~~ x.magic).toNat] w fun e w' => e = .returned (.int .u32 (nz (~~~ x.magic)).toNat) ∧ w = w') := fun w => nz_any _ w
  obtain ⟨m, hm⟩ : ∃ m, nz (~~~ x.magic) = m := ⟨_, rfl⟩
  rw [hm] at HNZ ⊢
  rw [show (((~~~ x.magic).toNat : Nat) : Int) = bits .xor .u32 IntKind.u32.max (x.magic.toNat : Int) from hn.symm] at HNZ
  obtain ⟨y, hy⟩ : ∃ y, (if x.magic != 0 && !isOwn p.w x then x else if isOwn p.w { x with magic := m } then { x with magic := 1 } else { x with magic := m }) = y := ⟨_, rfl⟩
  rw [hy]
  have HY := Lib.hid hy.symm
  have HO := Lib.hid (own_any g p x)
  clear h HW hn hm hy
  cases h1 : (x.magic != 0)
  · rw [h1] at hz HY
    simp only [Bool.false_and, Bool.false_eq_true, if_false] at HY
    have HS := Lib.hid (HM.out.set m hgl)
    have s6 := HS.out.a.f 6
    clear h1
    go_enter Tryz.func153, Tryz.ntmps153
    go_wp2_with fail
    refine (HNZ.out _).mono ?_
    rintro e _ ⟨rfl, rfl⟩
    go_wp2_with (first
            | (refine wpList_load_row rfl 42 _ rfl w.heap.size rfl 42 (lv { x with magic := m }).toArray (0, 0) _ HS.out.a Tryz.underlying42 rfl (lcp_size _) ?_))
    refine (own_any g p { x with magic := m } _ HS.out.p).mono ?_
    rintro e w2 ⟨rfl, hb2⟩
    have H2 := Lib.hid (HS.out.callee hb2)
    clear hb2
    cases h2 : isOwn p.w { x with magic := m }
    · rw [h2] at HY
      have hy : y = { x with magic := m } := HY.out
      subst hy
      go_wp2_with (first
            | (refine wpList_load_row rfl 42 _ rfl w.heap.size rfl 42 (lv { x with magic := m }).toArray (0, 0) _ H2.out.a Tryz.underlying42 rfl (lcp_size _) ?_)
            | (refine wpList_store_row rfl 42 _ _ rfl (w.heap.size + 1) (lv { x with magic := m }).toArray rfl rfl 42 _ H2.out.z (lcp_size _) rfl (lv_one _) ?_))
      (try simp only [Exit.inBlock, Exit.then])
      refine bodyPost_ret (bet_res rfl _ _ H2.out.z rfl) rfl ?_
      exact bet_q _ H2.out.b (Nat.le_succ _)
    · rw [h2] at HY
      have hy : y = { x with magic := 1 } := HY.out
      subst hy
      have f6' := H2.out.a.f 6
      have H3 : Hid (Mg w (w2.setCell ⟨w.heap.size, 6, none⟩ (.int .u32 1)) g p { x with magic := 1 }) := H2.out.set 1 hgl
      have c6' : w2.cell? ⟨w.heap.size, 6, none⟩ = some (.int .u32 m.toNat) := H2.out.a.c 6
      go_wp2_with (first
            | (refine wpList_load_row rfl 42 _ rfl w.heap.size rfl 42 (lv { x with magic := 1 }).toArray (0, 0) _ H3.out.a Tryz.underlying42 rfl (lcp_size _) ?_)
            | (refine wpList_store_row rfl 42 _ _ rfl (w.heap.size + 1) (lv { x with magic := 1 }).toArray rfl rfl 42 _ H3.out.z (lcp_size _) rfl (lv_one _) ?_))
      (try simp only [Exit.inBlock, Exit.then])
      refine bodyPost_ret (bet_res rfl _ _ H3.out.z rfl) rfl ?_
      exact bet_q _ H3.out.b (Nat.le_succ _)
  · rw [h1] at hz HY
    obtain ⟨d0, d1, d2, d3, d4, d5, d7, d8⟩ := cells8 HM.out.a
    go_enter Tryz.func153, Tryz.ntmps153
    go_wp2_with fail
    refine (HO.out W HM.out.p).mono ?_
    rintro e w1 ⟨rfl, hb1⟩
    have H1 := Lib.hid (HM.out.callee hb1)
    clear hb1 hW HM c6 f6 d0 d1 d2 d3 d4 d5 d7 d8
    cases h3 : isOwn p.w x
    · rw [h3] at HY
      have hy : y = x := HY.out
      subst hy
      go_wp2_with (first
        | (refine wpList_load_row rfl 42 _ rfl w.heap.size rfl 42 (lv y).toArray (0, 0) _ H1.out.a Tryz.underlying42 rfl (lcp_size _) ?_)
        | (refine wpList_store_row rfl 42 _ _ rfl (w.heap.size + 1) (lv y).toArray rfl rfl 42 _ H1.out.z (lcp_size _) rfl (lv_one _) ?_))
      (try simp only [Exit.inBlock, Exit.then])
      refine bodyPost_ret (bet_res rfl _ _ H1.out.z rfl) rfl ?_
      exact bet_q _ H1.out.b (Nat.le_succ _)
    · rw [h3] at HY
      simp only [Bool.not_true, Bool.and_false, Bool.false_eq_true, if_false] at HY
      have c6 : w1.cell? ⟨w.heap.size, 6, none⟩ = some (.int .u32 x.magic.toNat) := H1.out.a.c 6
      have f6 := H1.out.a.f 6
      have HS := Lib.hid (H1.out.set m hgl)
      have s6 := HS.out.a.f 6
      clear h1 h3
      go_wp2_with fail
      refine (HNZ.out _).mono ?_
      rintro e _ ⟨rfl, rfl⟩
      go_wp2_with (first
              | (refine wpList_load_row rfl 42 _ rfl w.heap.size rfl 42 (lv { x with magic := m }).toArray (0, 0) _ HS.out.a Tryz.underlying42 rfl (lcp_size _) ?_))
      refine (own_any g p { x with magic := m } _ HS.out.p).mono ?_
      rintro e w2 ⟨rfl, hb2⟩
      have H2 := Lib.hid (HS.out.callee hb2)
      clear hb2
      cases h2 : isOwn p.w { x with magic := m }
      · rw [h2] at HY
        have hy : y = { x with magic := m } := HY.out
        subst hy
        go_wp2_with (first
              | (refine wpList_load_row rfl 42 _ rfl w.heap.size rfl 42 (lv { x with magic := m }).toArray (0, 0) _ H2.out.a Tryz.underlying42 rfl (lcp_size _) ?_)
              | (refine wpList_store_row rfl 42 _ _ rfl (w.heap.size + 1) (lv { x with magic := m }).toArray rfl rfl 42 _ H2.out.z (lcp_size _) rfl (lv_one _) ?_))
        (try simp only [Exit.inBlock, Exit.then])
        refine bodyPost_ret (bet_res rfl _ _ H2.out.z rfl) rfl ?_
        exact bet_q _ H2.out.b (Nat.le_succ _)
      · rw [h2] at HY
        have hy : y = { x with magic := 1 } := HY.out
        subst hy
        have f6' := H2.out.a.f 6
        have H3 : Hid (Mg w (w2.setCell ⟨w.heap.size, 6, none⟩ (.int .u32 1)) g p { x with magic := 1 }) := H2.out.set 1 hgl
        have c6' : w2.cell? ⟨w.heap.size, 6, none⟩ = some (.int .u32 m.toNat) := H2.out.a.c 6
        go_wp2_with (first
              | (refine wpList_load_row rfl 42 _ rfl w.heap.size rfl 42 (lv { x with magic := 1 }).toArray (0, 0) _ H3.out.a Tryz.underlying42 rfl (lcp_size _) ?_)
              | (refine wpList_store_row rfl 42 _ _ rfl (w.heap.size + 1) (lv { x with magic := 1 }).toArray rfl rfl 42 _ H3.out.z (lcp_size _) rfl (lv_one _) ?_))
        (try simp only [Exit.inBlock, Exit.then])
        refine bodyPost_ret (bet_res rfl _ _ H3.out.z rfl) rfl ?_
        exact bet_q _ H3.out.b (Nat.le_succ _)
end Go.Proofs.YtpppggicihfbgaaGreat.Pol

/- Contracts of lcpopt's canBePut and of the document's May. -/
namespace Go.Proofs.YtpppggicihfbgaaGreat.Lco
open Go.RowKit Go.Proofs.YtpppggicihfbgaaGreat.Oct Go.Proofs.YtpppggicihfbgaaGreat.Row Go.Proofs.YtpppggicihfbgaaGreat.Mem Go.Proofs.YtpppggicihfbgaaGreat.Opt

set_option maxHeartbeats 4000000 in
set_option maxRecDepth 100000 in
theorem can_any (x : Lcp) (w : World) : Calls Tryz.prog 160 #[.agg (lv x).toArray] w fun e w' => e = .returned (.bool (may x)) ∧ Below w.heap.size w w' := by
  obtain ⟨W, hW, HW⟩ := boxL w x
  have HB := Lib.hid HW.out.2.1
  obtain ⟨hm, mru, ha, accm, auth, hg, magic, pfc, acfc⟩ := x
  show Calls Tryz.prog 160 #[.agg #[Value.bool hm, .int .u16 mru.toNat, .bool ha, .int .u32 accm.toNat, .int .u8 auth.toNat, .bool hg, .int .u32 magic.toNat, .bool pfc, .bool acfc]] w fun e w' => e = .returned (.bool (may ⟨hm, mru, ha, accm, auth, hg, magic, pfc, acfc⟩)) ∧ Below w.heap.size w w'
  have c0 : W.cell? ⟨w.heap.size, 0, none⟩ = some (Value.bool hm) := HW.out.1.c 0
  have c1 : W.cell? ⟨w.heap.size, 1, none⟩ = some (.int .u16 mru.toNat) := HW.out.1.c 1
  have c2 : W.cell? ⟨w.heap.size, 2, none⟩ = some (.bool ha) := HW.out.1.c 2
  have c3 : W.cell? ⟨w.heap.size, 3, none⟩ = some (.int .u32 accm.toNat) := HW.out.1.c 3
  have c4 : W.cell? ⟨w.heap.size, 4, none⟩ = some (.int .u8 auth.toNat) := HW.out.1.c 4
  have c5 : W.cell? ⟨w.heap.size, 5, none⟩ = some (.bool hg) := HW.out.1.c 5
  have c6 : W.cell? ⟨w.heap.size, 6, none⟩ = some (.int .u32 magic.toNat) := HW.out.1.c 6
  clear HW
  by_cases k0 : auth ≤ 2
  · have x0 : (auth.toNat : Int) ≤ 2 := by have := UInt8.le_iff_toNat_le.1 k0; have e : (2 : UInt8).toNat = 2 := rfl; omega
    cases hm
    · by_cases k1 : mru = 0
      · have x1 : ((mru.toNat : Int) == 0) = true := by rw [k1]; rfl
        cases ha
        · by_cases k2 : accm = 0
          · have x2 : ((accm.toNat : Int) == 0) = true := by rw [k2]; rfl
            cases hg
            · by_cases k3 : magic = 0
              · have x3 : ((magic.toNat : Int) == 0) = true := by rw [k3]; rfl
                have HM : Hid (may ⟨false, mru, false, accm, auth, false, magic, pfc, acfc⟩ = true) := by
                  show _ = _
                  unfold may
                  simp [k0, k1, k2, k3]
                clear k0 k1 k2 k3
                go_enter Tryz.func160, Tryz.ntmps160
                go_wp2
                go_ret
                exact ⟨by rw [HM.out] <;> rfl, HB.out⟩
              · have x3 : ((magic.toNat : Int) == 0) = false := by rw [beq_eq_false_iff_ne]; intro e; exact k3 (UInt32.toNat_inj.1 (by show magic.toNat = 0; omega))
                have HM : Hid (may ⟨false, mru, false, accm, auth, false, magic, pfc, acfc⟩ = false) := by
                  show _ = _
                  unfold may
                  simp [k0, k1, k2, k3]
                clear k0 k1 k2 k3
                go_enter Tryz.func160, Tryz.ntmps160
                go_wp2
                go_ret
                exact ⟨by rw [HM.out] <;> rfl, HB.out⟩
            · skip
              have HM : Hid (may ⟨false, mru, false, accm, auth, true, magic, pfc, acfc⟩ = true) := by
                show _ = _
                unfold may
                simp [k0, k1, k2]
              clear k0 k1 k2
              go_enter Tryz.func160, Tryz.ntmps160
              go_wp2
              go_ret
              exact ⟨by rw [HM.out] <;> rfl, HB.out⟩
          · have x2 : ((accm.toNat : Int) == 0) = false := by rw [beq_eq_false_iff_ne]; intro e; exact k2 (UInt32.toNat_inj.1 (by show accm.toNat = 0; omega))
            have HM : Hid (may ⟨false, mru, false, accm, auth, hg, magic, pfc, acfc⟩ = false) := by
              show _ = _
              unfold may
              simp [k0, k1, k2]
            clear k0 k1 k2
            go_enter Tryz.func160, Tryz.ntmps160
            go_wp2
            go_ret
            exact ⟨by rw [HM.out] <;> rfl, HB.out⟩
        · skip
          cases hg
          · by_cases k3 : magic = 0
            · have x3 : ((magic.toNat : Int) == 0) = true := by rw [k3]; rfl
              have HM : Hid (may ⟨false, mru, true, accm, auth, false, magic, pfc, acfc⟩ = true) := by
                show _ = _
                unfold may
                simp [k0, k1, k3]
              clear k0 k1 k3
              go_enter Tryz.func160, Tryz.ntmps160
              go_wp2
              go_ret
              exact ⟨by rw [HM.out] <;> rfl, HB.out⟩
            · have x3 : ((magic.toNat : Int) == 0) = false := by rw [beq_eq_false_iff_ne]; intro e; exact k3 (UInt32.toNat_inj.1 (by show magic.toNat = 0; omega))
              have HM : Hid (may ⟨false, mru, true, accm, auth, false, magic, pfc, acfc⟩ = false) := by
                show _ = _
                unfold may
                simp [k0, k1, k3]
              clear k0 k1 k3
              go_enter Tryz.func160, Tryz.ntmps160
              go_wp2
              go_ret
              exact ⟨by rw [HM.out] <;> rfl, HB.out⟩
          · skip
            have HM : Hid (may ⟨false, mru, true, accm, auth, true, magic, pfc, acfc⟩ = true) := by
              show _ = _
              unfold may
              simp [k0, k1]
            clear k0 k1
            go_enter Tryz.func160, Tryz.ntmps160
            go_wp2
            go_ret
            exact ⟨by rw [HM.out] <;> rfl, HB.out⟩
      · have x1 : ((mru.toNat : Int) == 0) = false := by rw [beq_eq_false_iff_ne]; intro e; exact k1 (UInt16.toNat_inj.1 (by show mru.toNat = 0; omega))
        have HM : Hid (may ⟨false, mru, ha, accm, auth, hg, magic, pfc, acfc⟩ = false) := by
          show _ = _
          unfold may
          simp [k0, k1]
        clear k0 k1
        go_enter Tryz.func160, Tryz.ntmps160
        go_wp2
        go_ret
        exact ⟨by rw [HM.out] <;> rfl, HB.out⟩
    · skip
      cases ha
      · by_cases k2 : accm = 0
        · have x2 : ((accm.toNat : Int) == 0) = true := by rw [k2]; rfl
          cases hg
          · by_cases k3 : magic = 0
            · have x3 : ((magic.toNat : Int) == 0) = true := by rw [k3]; rfl
              have HM : Hid (may ⟨true, mru, false, accm, auth, false, magic, pfc, acfc⟩ = true) := by
                show _ = _
                unfold may
                simp [k0, k2, k3]
              clear k0 k2 k3
              go_enter Tryz.func160, Tryz.ntmps160
              go_wp2
              go_ret
              exact ⟨by rw [HM.out] <;> rfl, HB.out⟩
            · have x3 : ((magic.toNat : Int) == 0) = false := by rw [beq_eq_false_iff_ne]; intro e; exact k3 (UInt32.toNat_inj.1 (by show magic.toNat = 0; omega))
              have HM : Hid (may ⟨true, mru, false, accm, auth, false, magic, pfc, acfc⟩ = false) := by
                show _ = _
                unfold may
                simp [k0, k2, k3]
              clear k0 k2 k3
              go_enter Tryz.func160, Tryz.ntmps160
              go_wp2
              go_ret
              exact ⟨by rw [HM.out] <;> rfl, HB.out⟩
          · skip
            have HM : Hid (may ⟨true, mru, false, accm, auth, true, magic, pfc, acfc⟩ = true) := by
              show _ = _
              unfold may
              simp [k0, k2]
            clear k0 k2
            go_enter Tryz.func160, Tryz.ntmps160
            go_wp2
            go_ret
            exact ⟨by rw [HM.out] <;> rfl, HB.out⟩
        · have x2 : ((accm.toNat : Int) == 0) = false := by rw [beq_eq_false_iff_ne]; intro e; exact k2 (UInt32.toNat_inj.1 (by show accm.toNat = 0; omega))
          have HM : Hid (may ⟨true, mru, false, accm, auth, hg, magic, pfc, acfc⟩ = false) := by
            show _ = _
            unfold may
            simp [k0, k2]
          clear k0 k2
          go_enter Tryz.func160, Tryz.ntmps160
          go_wp2
          go_ret
          exact ⟨by rw [HM.out] <;> rfl, HB.out⟩
      · skip
        cases hg
        · by_cases k3 : magic = 0
          · have x3 : ((magic.toNat : Int) == 0) = true := by rw [k3]; rfl
            have HM : Hid (may ⟨true, mru, true, accm, auth, false, magic, pfc, acfc⟩ = true) := by
              show _ = _
              unfold may
              simp [k0, k3]
            clear k0 k3
            go_enter Tryz.func160, Tryz.ntmps160
            go_wp2
            go_ret
            exact ⟨by rw [HM.out] <;> rfl, HB.out⟩
          · have x3 : ((magic.toNat : Int) == 0) = false := by rw [beq_eq_false_iff_ne]; intro e; exact k3 (UInt32.toNat_inj.1 (by show magic.toNat = 0; omega))
            have HM : Hid (may ⟨true, mru, true, accm, auth, false, magic, pfc, acfc⟩ = false) := by
              show _ = _
              unfold may
              simp [k0, k3]
            clear k0 k3
            go_enter Tryz.func160, Tryz.ntmps160
            go_wp2
            go_ret
            exact ⟨by rw [HM.out] <;> rfl, HB.out⟩
        · skip
          have HM : Hid (may ⟨true, mru, true, accm, auth, true, magic, pfc, acfc⟩ = true) := by
            show _ = _
            unfold may
            simp [k0]
          clear k0
          go_enter Tryz.func160, Tryz.ntmps160
          go_wp2
          go_ret
          exact ⟨by rw [HM.out] <;> rfl, HB.out⟩
  · have x0 : ¬ (auth.toNat : Int) ≤ 2 := fun e => k0 (UInt8.le_iff_toNat_le.2 (by have e2 : (2 : UInt8).toNat = 2 := rfl; omega))
    have HM : Hid (may ⟨hm, mru, ha, accm, auth, hg, magic, pfc, acfc⟩ = false) := by
      show _ = _
      unfold may
      simp [k0]
    clear k0
    go_enter Tryz.func160, Tryz.ntmps160
    go_wp2
    go_ret
    exact ⟨by rw [HM.out] <;> rfl, HB.out⟩
end Go.Proofs.YtpppggicihfbgaaGreat.Lco

/- Contract of Bad: package lcppol. -/
namespace Go.Proofs.YtpppggicihfbgaaGreat.Pol
open Go.RowKit Go.Proofs.YtpppggicihfbgaaGreat.Oct Go.Proofs.YtpppggicihfbgaaGreat.Row Go.Proofs.YtpppggicihfbgaaGreat.Mem Go.Proofs.YtpppggicihfbgaaGreat.Opt Go.Proofs.YtpppggicihfbgaaGreat.Lco

set_option maxHeartbeats 400000 in
set_option maxRecDepth 100000 in
theorem bad_any (g : Nat) (p : Po) (w : World) (h : PAt w g p) : Calls Tryz.prog 13 #[.pointer (some ⟨g, 0, none⟩)] w fun e w' => e = .returned (.bool p.bad) ∧ w = w' := by
  have c39 : w.cell? ⟨g, 39, none⟩ = some (.bool p.bad) := h.c 39
  clear h
  go_enter Tryz.func13, Tryz.ntmps13
  go_wp2
  go_ret
  exact ⟨rfl, rfl⟩
end Go.Proofs.YtpppggicihfbgaaGreat.Pol
