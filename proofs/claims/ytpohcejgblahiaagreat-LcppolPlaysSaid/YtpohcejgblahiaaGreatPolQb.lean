/- The document's policy in a block; its May, bit, some, New, Request, says, only. Written by gen/pol_qb.py. -/
import Derived.Test.YtpohcejgblahiaaGreatGLcoK
import Derived.Test.YtpohcejgblahiaaGreatQuietS
import Derived.Test.YtpohcejgblahiaaGreatGPolN
import Derived.Test.YtpohcejgblahiaaGreatGLcoA
import Derived.Test.YtpohcejgblahiaaGreatPolG
import Derived.Test.YtpohcejgblahiaaGreatLcoO
import Derived.Test.YtpohcejgblahiaaGreatLcoP
set_option linter.unusedSimpArgs false
set_option linter.unusedVariables false
namespace Go.Proofs.YtpohcejgblahiaaGreat.Pol
open Go.RowKit Go.Proofs.YtpohcejgblahiaaGreat.Oct Go.Proofs.YtpohcejgblahiaaGreat.Row Go.Proofs.YtpohcejgblahiaaGreat.Mem Go.Proofs.YtpohcejgblahiaaGreat.Opt Go.Proofs.YtpohcejgblahiaaGreat.Lco

/-- The document's policy p lies in block g. -/
def RAt (w : World) (g : Nat) (p : Po) : Prop := Blk w g (dv p) 88
theorem RAt.lt {w : World} {g : Nat} {p : Po} (h : RAt w g p) : g < w.heap.size := Blk.lt h
theorem RAt.c {w : World} {g : Nat} {p : Po} (h : RAt w g p) (i : Nat) : w.cell? ⟨g, i, none⟩ = (dv p)[i]? := Blk.at_ h i
theorem RAt.f {w : World} {g : Nat} {p : Po} (h : RAt w g p) (i : Nat) : w.frozen? ⟨g, i, none⟩ = false := Blk.frozen h i
theorem RAt.moves {S : Nat → Prop} {w w' : World} {g : Nat} {p : Po} (h : RAt w g p) (hm : Moves S w w') (hs : ¬ S g) : RAt w' g p := Blk.moves h hm hs
theorem RAt.callee {w w' : World} {g : Nat} {p : Po} (h : RAt w g p) (hb : Below w.heap.size w w') : RAt w' g p := Blk.callee h hb
theorem RAt.below {w w' : World} {g n : Nat} {p : Po} (h : RAt w g p) (hb : Below n w w') (hg : g < n) : RAt w' g p := Blk.below h hb hg
theorem RAt.alloc {w : World} {g : Nat} {p : Po} (h : RAt w g p) (o : Obj) : RAt (w.alloc o) g p := Blk.alloc h o
theorem RAt.drewN {w : World} {g : Nat} {p : Po} (h : RAt w g p) (k : Nat) : RAt (w.drewN k) g p := h
theorem RAt.setNaks {w : World} {g : Nat} {p : Po} (h : RAt w g p) (n : Nat) : RAt (w.setCell ⟨g, 37, none⟩ (.int .i64 n)) g { p with naks := n } := Blk.set h 37 (.int .i64 n)
theorem RAt.setLoops {w : World} {g : Nat} {p : Po} (h : RAt w g p) (n : Nat) : RAt (w.setCell ⟨g, 38, none⟩ (.int .i64 n)) g { p with loops := n } := Blk.set h 38 (.int .i64 n)
theorem RAt.setBad {w : World} {g : Nat} {p : Po} (h : RAt w g p) (b : Bool) : RAt (w.setCell ⟨g, 39, none⟩ (.bool b)) g { p with bad := b } := Blk.set h 39 (.bool b)
theorem RAt.setMine {w : World} {g : Nat} {p : Po} (h : RAt w g p) (x : Lcp) : RAt (w.setCells g 19 (lv x)) g { p with mine := x } :=
  ((((((((Blk.set h 19 (.bool x.hm)).set 20 (.int .u16 x.mru.toNat)).set 21 (.bool x.ha)).set 22 (.int .u32 x.accm.toNat)).set 23 (.int .u8 x.auth.toNat)).set 24 (.bool x.hg)).set 25 (.int .u32 x.magic.toNat)).set 26 (.bool x.pfc)).set 27 (.bool x.acfc)
theorem RAt.setPeer {w : World} {g : Nat} {p : Po} (h : RAt w g p) (x : Lcp) : RAt (w.setCells g 28 (lv x)) g { p with peer := x } :=
  ((((((((Blk.set h 28 (.bool x.hm)).set 29 (.int .u16 x.mru.toNat)).set 30 (.bool x.ha)).set 31 (.int .u32 x.accm.toNat)).set 32 (.int .u8 x.auth.toNat)).set 33 (.bool x.hg)).set 34 (.int .u32 x.magic.toNat)).set 35 (.bool x.pfc)).set 36 (.bool x.acfc)
theorem RAt.setW {w : World} {g : Nat} {p : Po} (h : RAt w g p) (x : Lcp) : RAt (w.setCells g 10 (lv x)) g { p with w := x } :=
  ((((((((Blk.set h 10 (.bool x.hm)).set 11 (.int .u16 x.mru.toNat)).set 12 (.bool x.ha)).set 13 (.int .u32 x.accm.toNat)).set 14 (.int .u8 x.auth.toNat)).set 15 (.bool x.hg)).set 16 (.int .u32 x.magic.toNat)).set 17 (.bool x.pfc)).set 18 (.bool x.acfc)
theorem RAt.setHm {w : World} {g : Nat} {p : Po} (h : RAt w g p) (v : Bool) : RAt (w.setCell ⟨g, 10, none⟩ (.bool v)) g { p with w := { p.w with hm := v } } := Blk.set h 10 (.bool v)
theorem RAt.setMru {w : World} {g : Nat} {p : Po} (h : RAt w g p) (v : UInt16) : RAt (w.setCell ⟨g, 11, none⟩ (.int .u16 v.toNat)) g { p with w := { p.w with mru := v } } := Blk.set h 11 (.int .u16 v.toNat)
theorem RAt.setHa {w : World} {g : Nat} {p : Po} (h : RAt w g p) (v : Bool) : RAt (w.setCell ⟨g, 12, none⟩ (.bool v)) g { p with w := { p.w with ha := v } } := Blk.set h 12 (.bool v)
theorem RAt.setAccm {w : World} {g : Nat} {p : Po} (h : RAt w g p) (v : UInt32) : RAt (w.setCell ⟨g, 13, none⟩ (.int .u32 v.toNat)) g { p with w := { p.w with accm := v } } := Blk.set h 13 (.int .u32 v.toNat)
theorem RAt.setAuth {w : World} {g : Nat} {p : Po} (h : RAt w g p) (v : UInt8) : RAt (w.setCell ⟨g, 14, none⟩ (.int .u8 v.toNat)) g { p with w := { p.w with auth := v } } := Blk.set h 14 (.int .u8 v.toNat)
theorem RAt.setHg {w : World} {g : Nat} {p : Po} (h : RAt w g p) (v : Bool) : RAt (w.setCell ⟨g, 15, none⟩ (.bool v)) g { p with w := { p.w with hg := v } } := Blk.set h 15 (.bool v)
theorem RAt.setMagic {w : World} {g : Nat} {p : Po} (h : RAt w g p) (v : UInt32) : RAt (w.setCell ⟨g, 16, none⟩ (.int .u32 v.toNat)) g { p with w := { p.w with magic := v } } := Blk.set h 16 (.int .u32 v.toNat)
theorem RAt.setPfc {w : World} {g : Nat} {p : Po} (h : RAt w g p) (v : Bool) : RAt (w.setCell ⟨g, 17, none⟩ (.bool v)) g { p with w := { p.w with pfc := v } } := Blk.set h 17 (.bool v)
theorem RAt.setAcfc {w : World} {g : Nat} {p : Po} (h : RAt w g p) (v : Bool) : RAt (w.setCell ⟨g, 18, none⟩ (.bool v)) g { p with w := { p.w with acfc := v } } := Blk.set h 18 (.bool v)
theorem RAt.wish {w : World} {g : Nat} {p : Po} (h : RAt w g p) : w.cell? ⟨g, 10, none⟩ = some (Value.bool p.w.hm) ∧ w.cell? ⟨g, 11, none⟩ = some (Value.int .u16 p.w.mru.toNat) ∧ w.cell? ⟨g, 12, none⟩ = some (Value.bool p.w.ha) ∧ w.cell? ⟨g, 13, none⟩ = some (Value.int .u32 p.w.accm.toNat) ∧ w.cell? ⟨g, 14, none⟩ = some (Value.int .u8 p.w.auth.toNat) ∧ w.cell? ⟨g, 15, none⟩ = some (Value.bool p.w.hg) ∧ w.cell? ⟨g, 16, none⟩ = some (Value.int .u32 p.w.magic.toNat) ∧ w.cell? ⟨g, 17, none⟩ = some (Value.bool p.w.pfc) ∧ w.cell? ⟨g, 18, none⟩ = some (Value.bool p.w.acfc) :=
  ⟨h.c 10, h.c 11, h.c 12, h.c 13, h.c 14, h.c 15, h.c 16, h.c 17, h.c 18⟩
theorem rat_new (w : World) (p : Po) : RAt (w.alloc (.cells (dv p).toArray 88)) w.heap.size p := blk_new w (dv p) _
set_option maxHeartbeats 400000 in
set_option maxRecDepth 100000 in
theorem rbit_any (k : UInt8) (hk : k ≤ 2) (w : World) : Calls Tryz.prog 43 #[.int .u8 k.toNat] w fun e w' => e = .returned (.int .u8 k.toNat) ∧ w = w' := by
  have h : k = 0 ∨ k = 1 ∨ k = 2 := by
    have h := UInt8.le_iff_toNat_le.1 hk
    have h2 : (2 : UInt8).toNat = 2 := rfl
    rcases (show k.toNat = 0 ∨ k.toNat = 1 ∨ k.toNat = 2 by omega) with e | e | e
    · exact .inl (UInt8.toNat_inj.1 e)
    · exact .inr (.inl (UInt8.toNat_inj.1 e))
    · exact .inr (.inr (UInt8.toNat_inj.1 e))
  clear hk
  rcases h with rfl | rfl | rfl
  · go_enter Tryz.func43, Tryz.ntmps43
    go_wp2
    go_ret
    exact ⟨rfl, rfl⟩
  · go_enter Tryz.func43, Tryz.ntmps43
    go_wp2
    go_ret
    exact ⟨rfl, rfl⟩
  · go_enter Tryz.func43, Tryz.ntmps43
    go_wp2
    go_ret
    exact ⟨rfl, rfl⟩
set_option maxHeartbeats 400000 in
set_option maxRecDepth 100000 in
theorem rsome_any (v : UInt32) (w : World) : Calls Tryz.prog 44 #[.int .u32 v.toNat] w fun e w' => e = .returned (.int .u32 (nz v).toNat) ∧ w = w' := by
  have h0 := u32_eq0 v
  by_cases h : v = 0
  · have HE : Hid (nz v = 1) := if_pos h
    rw [show (v == 0) = true from by rw [h]; rfl] at h0
    clear h
    go_enter Tryz.func44, Tryz.ntmps44
    go_wp2
    go_ret
    exact ⟨by rw [HE.out] <;> rfl, rfl⟩
  · have HE : Hid (nz v = v) := if_neg h
    rw [show (v == 0) = false from beq_eq_false_iff_ne.2 h] at h0
    clear h
    go_enter Tryz.func44, Tryz.ntmps44
    go_wp2
    go_ret
    exact ⟨by rw [HE.out] <;> rfl, rfl⟩
/-- What the document's New answers. -/
def RNewQ (p : Po) (w : World) (e : Ending) (w' : World) : Prop := ∃ g, e = .returned (.pointer (some ⟨g, 0, none⟩)) ∧ w.heap.size ≤ g ∧ RAt w' g p ∧ Below w.heap.size w w'
def newZ (c : Conf) : Po := ⟨lz, c, lz, lz, 0, 0, false⟩
theorem boxR (w W : World) (c : Conf) (h : Below w.heap.size w W) : ∃ V, W.alloc (.cells #[Value.int .u16 c.mru.toNat, Value.bool c.ha, Value.int .u32 c.accm.toNat, Value.int .u8 c.auth.toNat, Value.int .u8 c.takes.toNat, Value.int .u8 c.can.toNat, Value.bool c.mg, Value.bool c.pfc, Value.bool c.acfc, Value.int .i64 c.mn, Value.bool false, Value.int .u16 0, Value.bool false, Value.int .u32 0, Value.int .u8 0, Value.bool false, Value.int .u32 0, Value.bool false, Value.bool false, Value.bool false, Value.int .u16 0, Value.bool false, Value.int .u32 0, Value.int .u8 0, Value.bool false, Value.int .u32 0, Value.bool false, Value.bool false, Value.bool false, Value.int .u16 0, Value.bool false, Value.int .u32 0, Value.int .u8 0, Value.bool false, Value.int .u32 0, Value.bool false, Value.bool false, Value.int .i64 0, Value.int .i64 0, Value.bool false] 88) = V ∧ Hid (RAt V W.heap.size (newZ c) ∧ Below w.heap.size w V) :=
  ⟨_, rfl, rat_new W (newZ c), h.alloc h.size _⟩
set_option maxHeartbeats 8000000 in
set_option maxRecDepth 100000 in
theorem rnew_any (c : Conf) (m : UInt32) (w : World) : Calls Tryz.prog 20 #[.agg #[Value.int .u16 c.mru.toNat, Value.bool c.ha, Value.int .u32 c.accm.toNat, Value.int .u8 c.auth.toNat, Value.int .u8 c.takes.toNat, Value.int .u8 c.can.toNat, Value.bool c.mg, Value.bool c.pfc, Value.bool c.acfc, Value.int .i64 c.mn], .int .u32 m.toNat] w (RNewQ (newP c m) w) := by
  obtain ⟨W, hW, HW⟩ := boxC w c
  obtain ⟨c0, c1, c2, c3, c4, c5, c6, c7, c8, c9⟩ := HW.out.1.all
  obtain ⟨V, hV, HV⟩ := boxR w W c HW.out.2.1
  have HS := Lib.hid HW.out.2.1.size
  have HSz := Lib.hid HW.out.2.2
  have hx := u16_ne0 c.mru
  have HC := Lib.hid (HW.out.1.callee (hV ▸ (Below.refl W.heap.size W).alloc (Nat.le_refl _) _))
  obtain ⟨d0, d1, d2, d3, d4, d5, d6, d7, d8, d9⟩ := HC.out.all
  have HR := Lib.hid HV.out.1
  have HB := Lib.hid HV.out.2
  clear HW HV
  have HS2 := Lib.hid (rsome_any m)
  obtain ⟨V1, hV1⟩ : ∃ V1, V.setCells W.heap.size 10 (lv ⟨c.mru != 0, c.mru, c.ha, c.accm, c.auth, false, 0, c.pfc, c.acfc⟩) = V1 := ⟨_, rfl⟩
  have HR1 : Hid (RAt V1 W.heap.size { newZ c with w := ⟨c.mru != 0, c.mru, c.ha, c.accm, c.auth, false, 0, c.pfc, c.acfc⟩ }) := by show RAt _ _ _; rw [← hV1]; exact HR.out.setW _
  have hmv : Moves (fun k => k = W.heap.size) V V1 := by rw [← hV1]; exact sets_moves _ _ _ _
  have HB1 : Hid (Below w.heap.size w V1) := HB.out.trans (hmv.below HB.out.size (fun k e => by have := HS.out; omega))
  have HC1 : Hid (CAt V1 w.heap.size c) := Blk.moves HC.out hmv (fun e => by have := HSz.out; omega)
  have e6 : V1.cell? ⟨w.heap.size, 6, none⟩ = some (.bool c.mg) := HC1.out.all.2.2.2.2.2.2.1
  have HE : Hid (newP c m = ⟨⟨c.mru != 0, c.mru, c.ha, c.accm, c.auth, c.mg, if c.mg then nz m else 0, c.pfc, c.acfc⟩, c, lz, lz, 0, 0, false⟩) := rfl
  have hR := HR.out
  have r10 : V.cell? ⟨W.heap.size, 10, none⟩ = some (Value.bool false) := hR.c 10
  have f10 := hR.f 10
  have r11 : V.cell? ⟨W.heap.size, 11, none⟩ = some (Value.int .u16 0) := hR.c 11
  have f11 := hR.f 11
  have r12 : V.cell? ⟨W.heap.size, 12, none⟩ = some (Value.bool false) := hR.c 12
  have f12 := hR.f 12
  have r13 : V.cell? ⟨W.heap.size, 13, none⟩ = some (Value.int .u32 0) := hR.c 13
  have f13 := hR.f 13
  have r14 : V.cell? ⟨W.heap.size, 14, none⟩ = some (Value.int .u8 0) := hR.c 14
  have f14 := hR.f 14
  have r15 : V.cell? ⟨W.heap.size, 15, none⟩ = some (Value.bool false) := hR.c 15
  have f15 := hR.f 15
  have r16 : V.cell? ⟨W.heap.size, 16, none⟩ = some (Value.int .u32 0) := hR.c 16
  have f16 := hR.f 16
  have r17 : V.cell? ⟨W.heap.size, 17, none⟩ = some (Value.bool false) := hR.c 17
  have f17 := hR.f 17
  have r18 : V.cell? ⟨W.heap.size, 18, none⟩ = some (Value.bool false) := hR.c 18
  have f18 := hR.f 18
  clear hmv HR hR HC HC1
  simp only [World.setCells, lv, show (((0 : UInt32).toNat : Nat) : Int) = 0 from rfl] at hV1
  generalize (c.mru != 0) = b at *
  cases hm : c.mg
  · rw [hm] at hW hV c6 d6 e6
    have HE2 : Hid (newP c m = { newZ c with w := ⟨b, c.mru, c.ha, c.accm, c.auth, false, 0, c.pfc, c.acfc⟩ }) := by show _ = _; rw [HE.out, hm]; rfl
    clear hm HE
    go_enter Tryz.func20, Tryz.ntmps20
    go_wp2
    go_ret
    rw [HE2.out]
    exact ⟨_, rfl, HS.out, HR1.out, HB1.out⟩
  · rw [hm] at hW hV c6 d6 e6
    have HE2 : Hid (newP c m = { newZ c with w := ⟨b, c.mru, c.ha, c.accm, c.auth, true, nz m, c.pfc, c.acfc⟩ }) := by show _ = _; rw [HE.out, hm]; rfl
    have g15 : V1.cell? ⟨W.heap.size, 15, none⟩ = some (.bool false) := HR1.out.c 15
    have g16 : V1.cell? ⟨W.heap.size, 16, none⟩ = some (.int .u32 0) := HR1.out.c 16
    have f15 := HR1.out.f 15
    have f16 := HR1.out.f 16
    have HR2 : Hid (RAt ((V1.setCell ⟨W.heap.size, 15, none⟩ (.bool true)).setCell ⟨W.heap.size, 16, none⟩ (.int .u32 (nz m).toNat)) W.heap.size { newZ c with w := ⟨b, c.mru, c.ha, c.accm, c.auth, true, nz m, c.pfc, c.acfc⟩ }) := (HR1.out.setHg true).setMagic (nz m)
    have HB2 : Hid (Below w.heap.size w ((V1.setCell ⟨W.heap.size, 15, none⟩ (.bool true)).setCell ⟨W.heap.size, 16, none⟩ (.int .u32 (nz m).toNat))) := HB1.out.trans (((set_moves _ _ _ _).trans (set_moves _ _ _ _) (fun _ _ h => h)).below HB1.out.size (fun k e => by have := HS.out; omega))
    clear hm HE
    go_enter Tryz.func20, Tryz.ntmps20
    go_wp2_with fail
    refine (HS2.out _).mono ?_
    rintro e _ ⟨rfl, rfl⟩
    go_wp2
    go_ret
    rw [HE2.out]
    exact ⟨_, rfl, HS.out, HR2.out, HB2.out⟩
set_option maxHeartbeats 1000000 in
set_option maxRecDepth 100000 in
theorem rrequest_room (g : Nat) (p : Po) (w : World) (h : RAt w g p) (hm : may p.w = true) : Calls Tryz.prog 50 #[.pointer (some ⟨g, 0, none⟩)] w (RPutR p.w w) := by
  obtain ⟨p10, p11, p12, p13, p14, p15, p16, p17, p18⟩ := h.wish
  have HC : Hid (∀ U, Calls Tryz.prog 89 #[.agg #[Value.bool p.w.hm, Value.int .u16 p.w.mru.toNat, Value.bool p.w.ha, Value.int .u32 p.w.accm.toNat, Value.int .u8 p.w.auth.toNat, Value.bool p.w.hg, Value.int .u32 p.w.magic.toNat, Value.bool p.w.pfc, Value.bool p.w.acfc]] U (RPutR p.w U)) := fun U => rput_room p.w U hm
  clear h
  go_enter Tryz.func50, Tryz.ntmps50
  go_wp2_with fail
  refine (HC.out _).mono ?_
  rintro e w2 ⟨A, c, rfl, hO, hb2, hr, hA⟩
  have HO := Lib.hid hO
  have HB := Lib.hid hb2
  have HR := Lib.hid (And.intro hr hA)
  clear hO hb2 hr hA
  go_wp2
  go_ret
  exact ⟨A, c, rfl, HO.out, HB.out, HR.out⟩
theorem rrequest_any (g : Nat) (p : Po) (w : World) (h : RAt w g p) (hm : may p.w = true) : Calls Tryz.prog 50 #[.pointer (some ⟨g, 0, none⟩)] w (RPutQ p.w w) :=
  (rrequest_room g p w h hm).mono fun _ _ ⟨A, c, h1, h2, h3, _⟩ => ⟨A, c, h1, h2, h3⟩
/-! ### says, only -/
theorem lall9 {W : World} {g : Nat} {x : Lcp} (h : LAt W g x) : W.cell? ⟨g, 0, none⟩ = some (Value.bool x.hm) ∧ W.cell? ⟨g, 1, none⟩ = some (.int .u16 x.mru.toNat) ∧ W.cell? ⟨g, 2, none⟩ = some (.bool x.ha) ∧ W.cell? ⟨g, 3, none⟩ = some (.int .u32 x.accm.toNat) ∧ W.cell? ⟨g, 4, none⟩ = some (.int .u8 x.auth.toNat) ∧ W.cell? ⟨g, 5, none⟩ = some (.bool x.hg) ∧ W.cell? ⟨g, 6, none⟩ = some (.int .u32 x.magic.toNat) ∧ W.cell? ⟨g, 7, none⟩ = some (.bool x.pfc) ∧ W.cell? ⟨g, 8, none⟩ = some (.bool x.acfc) := ⟨h.c 0, h.c 1, h.c 2, h.c 3, h.c 4, h.c 5, h.c 6, h.c 7, h.c 8⟩
theorem boxO2 (w : World) (o : Opt) : ∃ W, (w.alloc (.cells #[.int .u8 o.1.toNat, .string o.2] 51)).alloc (.cells #[Value.bool false, Value.int .u16 0, Value.bool false, Value.int .u32 0, Value.int .u8 0, Value.bool false, Value.int .u32 0, Value.bool false, Value.bool false] 37) = W ∧ Hid (At W w.heap.size o ∧ LAt W (w.heap.size + 1) lz ∧ Below w.heap.size w W) :=
  ⟨_, rfl, (at_new w o.1 o.2).alloc _, by have := lat_new (w.alloc (.cells #[.int .u8 o.1.toNat, .string o.2] 51)) lz; rw [World.size_alloc] at this; exact this, ((Below.refl w.heap.size w).alloc (Nat.le_refl _) _).alloc (by simp) _⟩
set_option maxHeartbeats 4000000 in
set_option maxRecDepth 100000 in
theorem rsays_any (o : Opt) (w : World) (hd : o.2.size ≤ 140737488351232) : Calls Tryz.prog 87 #[.agg #[.int .u8 o.1.toNat, .string o.2]] w (BetQ (lo o) w) := by
  obtain ⟨W, hW, HW⟩ := boxO2 w o
  have HG : Hid (Calls Tryz.prog 88 #[.slice (some ⟨W.heap.size, 0, none⟩) 1 1] (W.alloc (.cells #[.int .u8 o.1.toNat, .string o.2] 51)) (GetQ [o] (W.alloc (.cells #[.int .u8 o.1.toNat, .string o.2] 51)))) := rget_any [o] _ _ 1 1 _ (one_opt W o hd) (by omega) (Nat.le_refl _)
  have c0 := HW.out.1.c0
  have c1 := HW.out.1.c1
  have HN := Lib.hid (lcp_size (lo o))
  have HZ := Lib.hid (HW.out.2.1.alloc (.cells #[.int .u8 o.1.toNat, .string o.2] 51))
  have HB := Lib.hid (HW.out.2.2.alloc HW.out.2.2.size (.cells #[.int .u8 o.1.toNat, .string o.2] 51))
  clear hd HW
  go_enter Tryz.func87, Tryz.ntmps87
  go_wp2_with fail
  refine HG.out.mono ?_
  rintro e w1 ⟨A1, c1', rfl, _, hb1⟩
  have HZ1 := Lib.hid (HZ.out.callee hb1)
  have HB1 := Lib.hid (HB.out.trans (hb1.mono HB.out.size))
  clear hb1 HG HZ HB hW c0 c1
  obtain ⟨V, hV, HV⟩ := boxL w1 (gL [o])
  have HZ2 := Lib.hid (HZ1.out.callee HV.out.2.1)
  have HB2 := Lib.hid (HB1.out.trans (HV.out.2.1.mono HB1.out.size))
  obtain ⟨y0, y1, y2, y3, y4, y5, y6, y7, y8⟩ := lall9 HV.out.1
  have hlo : gL [o] = lo o := rfl
  generalize (gO [o]).length = m1
  generalize gE [o] = m2
  rw [hlo] at hV y0 y1 y2 y3 y4 y5 y6 y7 y8 ⊢
  clear HV HZ1 HB1 hlo
  generalize lo o = x at *
  unfold lv
  go_wp2_with (refine wpList_store_row rfl 37 _ _ rfl (w.heap.size + 1) (lv x).toArray rfl rfl 37 _ HZ2.out HN.out rfl (lv_one _) ?_)
  (try simp only [Exit.inBlock, Exit.then])
  refine bodyPost_ret (bet_res rfl _ x HZ2.out rfl) rfl ?_
  exact bet_q x HB2.out (Nat.le_succ _)
set_option maxHeartbeats 4000000 in
set_option maxRecDepth 100000 in
theorem ronly_any (x : Lcp) (o : Opt) (w : World) (hm : may x = true) (hp : put x = [o]) : Calls Tryz.prog 112 #[.agg #[Value.bool x.hm, Value.int .u16 x.mru.toNat, Value.bool x.ha, Value.int .u32 x.accm.toNat, Value.int .u8 x.auth.toNat, Value.bool x.hg, Value.int .u32 x.magic.toNat, Value.bool x.pfc, Value.bool x.acfc]] w fun e w' => e = .returned (.agg #[.int .u8 o.1.toNat, .string o.2]) ∧ Below w.heap.size w w' := by
  obtain ⟨W, hW, HW⟩ : ∃ W, (w.alloc (.cells #[Value.bool x.hm, Value.int .u16 x.mru.toNat, Value.bool x.ha, Value.int .u32 x.accm.toNat, Value.int .u8 x.auth.toNat, Value.bool x.hg, Value.int .u32 x.magic.toNat, Value.bool x.pfc, Value.bool x.acfc] 37)).alloc (.cells #[.int .u8 0, .string ⟨#[]⟩] 51) = W ∧ Hid (LAt W w.heap.size x ∧ At W (w.heap.size + 1) (0, ⟨#[]⟩) ∧ Below w.heap.size w W) :=
    ⟨_, rfl, Blk.alloc (lat_new w x) _, by have := at_new (w.alloc (.cells (lv x).toArray 37)) 0 ⟨#[]⟩; rw [World.size_alloc] at this; exact this, ((Below.refl w.heap.size w).alloc (Nat.le_refl _) _).alloc (by simp) _⟩
  have HC : Hid (∀ U, Calls Tryz.prog 89 #[.agg #[Value.bool x.hm, Value.int .u16 x.mru.toNat, Value.bool x.ha, Value.int .u32 x.accm.toNat, Value.int .u8 x.auth.toNat, Value.bool x.hg, Value.int .u32 x.magic.toNat, Value.bool x.pfc, Value.bool x.acfc]] U (RPutQ x U)) := fun U => rput_any x U hm
  have HP := Lib.hid hp
  obtain ⟨y0, y1, y2, y3, y4, y5, y6, y7, y8⟩ := lall9 HW.out.1
  have HZ := Lib.hid HW.out.2.1
  have HB := Lib.hid HW.out.2.2
  clear hm hp HW
  go_enter Tryz.func112, Tryz.ntmps112
  go_wp2_with fail
  refine (HC.out _).mono ?_
  rintro e w2 ⟨A, c, rfl, hO, hb2⟩
  rw [HP.out] at hO ⊢
  rw [show ([o] : List Opt).length = 1 from rfl] at hO ⊢
  obtain ⟨ad, o', rfl, hB, ho, hS, d0, d1⟩ := hO.at_ (k := 0) (by decide)
  obtain rfl : o = o' := Option.some.inj ho
  rw [show ad.add (0 * 2) = ad from by cases ad; rfl] at d0 d1
  have HZ2 := Lib.hid (HZ.out.callee hb2)
  have HB2 := Lib.hid (HB.out.trans (hb2.mono HB.out.size))
  have z0 : w2.cell? ⟨w.heap.size + 1, 0, none⟩ = some (.int .u8 0) := HZ2.out.c0
  have z1 : w2.cell? ⟨w.heap.size + 1, 1, none⟩ = some (.string ⟨#[]⟩) := HZ2.out.c1
  have f0 : w2.frozen? ⟨w.heap.size + 1, 0, none⟩ = false := Blk.frozen HZ2.out 0
  have f1 : w2.frozen? ⟨w.heap.size + 1, 1, none⟩ = false := Blk.frozen HZ2.out 1
  clear hO hb2 hB hS ho HC HP HZ HB hW y0 y1 y2 y3 y4 y5 y6 y7 y8
  go_wp2
  (try simp only [Exit.inBlock, Exit.then])
  refine bodyPost_ret (opt_end rfl _ o (HZ2.out.set o) rfl) rfl ?_
  exact ⟨rfl, (HB2.out.setCell (p := ⟨w.heap.size + 1, 0, none⟩) (Nat.le_succ _) _).setCell (p := ⟨w.heap.size + 1, 1, none⟩) (Nat.le_succ _) _⟩
end Go.Proofs.YtpohcejgblahiaaGreat.Pol
