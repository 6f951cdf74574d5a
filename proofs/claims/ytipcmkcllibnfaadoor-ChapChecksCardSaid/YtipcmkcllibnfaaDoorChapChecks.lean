/- PROVED: 'halyard/halyardlaw19.ChapChecks' returns true for every case and every other identifier, and leaves it as it was. Its row lists package md5's two tables as they are laid; the card ties that to the program's text. No other condition. -/
import Derived.Test.YtipcmkcllibnfaaDoorChpC
import Derived.Test.YtipcmkcllibnfaaDoorChpD
import Derived.Test.YtipcmkcllibnfaaDoorChpE
import Derived.Test.YtipcmkcllibnfaaDoorChpX
import Derived.Test.YtipcmkcllibnfaaDoorChpS
import Derived.Test.YtipcmkcllibnfaaDoorPktEq
import Derived.Test.YtipcmkcllibnfaaDoorPktAt
import Derived.Test.YtipcmkcllibnfaaDoorMd5La
import Derived.Test.YtipcmkcllibnfaaDoorLaw
import Derived.Test.YtipcmkcllibnfaaDoorRows
import Derived.Test.YtipcmkcllibnfaaDoorCards
import Derived.Test.YtipcmkcllibnfaaDoorTie
import Derived.SevenTiedAt
import Derived.ChangeMaps5
import Derived.SizedLaws
import Derived.StillTailTactics
namespace Go.Proofs.YtipcmkcllibnfaaDoor.ChapChecks
open Go.ChangeShapes Go.WideShapes Go.ChangeAt Go.RowKit Go.WideElems Go.Proofs.YtipcmkcllibnfaaDoor.Oct Go.Proofs.YtipcmkcllibnfaaDoor.Row Go.Proofs.YtipcmkcllibnfaaDoor.Mem Go.Proofs.YtipcmkcllibnfaaDoor.Chp
open Go.Proofs.YtipcmkcllibnfaaDoor.Md5 (Globs of_laid laid2 door_met own laidOut)
open Go.Proofs.YtipcmkcllibnfaaDoor.Pkt (At at_new At.callee At.alloc beq_self)
open Go.ChangeMaps (open_string shut_string)

theorem resp_read {v n : ByteArray} {D : ByteArray} (hD : D.size = 16) (hn : n.size ≤ 255) : rdE 2 (vn D n) = 0 ∧ rdV 2 (vn D n) = .tuple #[.string D, .string n, .int .i64 0] ∧ rdA 2 (vn D n) = D := by
  have h := put_read (c := 2) (v := D) (n := n) (.inr rfl) (by omega) (by omega) hn
  exact ⟨h.1, by rw [rdV, h.1, h.2.1, h.2.2], h.2.1⟩
theorem vn16 {D n : ByteArray} (hD : D.size = 16) : vn D n = (⟨#[16]⟩ : ByteArray) ++ D ++ n := by rw [vn, hD]; rfl
theorem vn15 {D n : ByteArray} (hD : D.size = 16) : vn (D.extract 0 15) n = (⟨#[15]⟩ : ByteArray) ++ D.extract 0 15 ++ n := by
  have h : (D.extract 0 15).size = 15 := by rw [extract_front, size_bOf, List.length_take, ← size_toList, hD]; rfl
  rw [vn, h]; rfl
theorem short_no {D n : ByteArray} (hD : D.size = 16) (hn : n.size ≤ 255) : rdA 2 (vn (D.extract 0 15) n) ≠ D := by
  have h : (D.extract 0 15).size = 15 := by rw [extract_front, size_bOf, List.length_take, ← size_toList, hD]; rfl
  have h1 := put_read (c := 2) (v := D.extract 0 15) (n := n) (.inr rfl) (by omega) (by omega) hn
  rw [h1.2.1]
  intro e
  rw [e] at h
  omega
theorem short_rd {D n : ByteArray} (hD : D.size = 16) (hn : n.size ≤ 255) : rdE 2 (vn (D.extract 0 15) n) = 0 := by
  have h : (D.extract 0 15).size = 15 := by rw [extract_front, size_bOf, List.length_take, ← size_toList, hD]; rfl
  exact (put_read (c := 2) (v := D.extract 0 15) (n := n) (.inr rfl) (by omega) (by omega) hn).1
theorem set0 {W : World} {g : Nat} {c i c' : UInt8} {s : ByteArray} (h : At W g c i s) : At (W.setCell ⟨g, 0, none⟩ (.int .u8 c'.toNat)) g c' i s := Blk.set h 0 _
theorem set2 {W : World} {g : Nat} {c i : UInt8} {s u : ByteArray} (h : At W g c i s) : At (W.setCell ⟨g, 2, none⟩ (.string u)) g c i u := Blk.set h 2 _
theorem blk_other {w : World} {g g' i : Nat} {cs : List Value} {t : TypeId} (h : Blk w g cs t) (hne : g ≠ g') (v : Value) : Blk (w.setCell ⟨g', i, none⟩ v) g cs t := (Below.heap_setCell _ _ _ _ hne).trans h
theorem At.lt {W : World} {g : Nat} {c i : UInt8} {s : ByteArray} (h : At W g c i s) : g < W.heap.size := Blk.lt h
theorem At.f {W : World} {g : Nat} {c i : UInt8} {s : ByteArray} (h : At W g c i s) (j : Nat) : W.frozen? ⟨g, j, none⟩ = false := Blk.frozen h j
theorem new_set (W : World) (cs : Array Value) (t : TypeId) (i : Nat) (v : Value) : Below W.heap.size W ((W.alloc (.cells cs t)).setCell ⟨W.heap.size, i, none⟩ v) := ((Below.refl _ W).alloc (Nat.le_refl _) _).setCell (p := ⟨W.heap.size, i, none⟩) (Nat.le_refl _) _
set_option maxHeartbeats 8000000 in
set_option maxRecDepth 100000 in
theorem w_no (x : Cas) (o : UInt8) (w : World) (hs : x.s.size ≤ 4096) (hv : x.v.size ≤ 4096) (hn : x.n.size ≤ 4096) (hd : x.p.d.size ≤ 4096) (hl : lgB x = false) (hG : Globs w) (h1 : chE x.v x.n ≠ 0) :
    Calls Tryd.prog 5 #[.agg #[.int .u8 x.id.toNat, .string x.s, .string x.v, .string x.n, .bool x.b, .int .u8 x.p.c.toNat, .int .u8 x.p.i.toNat, .string x.p.d], .int .u8 o.toNat] w fun e w' => e = .returned (.bool true) ∧ Below w.heap.size w w' := by
  have HG := Lib.hid hG; clear hG
  have HH0 := Lib.hid (Below.refl w.heap.size w)
  have HC := Lib.hid (cs_new w x)
  have HH0 := Lib.hid (HH0.out.alloc HH0.out.size _ : Below w.heap.size w (w.alloc (.cells #[.int .u8 x.id.toNat, .string x.s, .string x.v, .string x.n, .bool x.b, .int .u8 x.p.c.toNat, .int .u8 x.p.i.toNat, .string x.p.d] 25)))
  have HG := Lib.hid (HG.out.below HH0.out)
  have KLg := Lib.hid (fun W => long_any x W (by omega) (by omega) (by omega) (by omega))
  rw [hl] at KLg
  have KQ := Lib.hid (fun w h => response_any x.id x.s x.v x.n w (by omega) (by omega) (by omega) h)
  rw [pkV_no h1] at KQ
  have hE1 : (chE x.v x.n == 0) = false := by rw [beq_eq_false_iff_ne]; exact h1
  generalize chE x.v x.n = E1 at *
  have KK := Lib.hid (fun w h => check_any 0 0 (bOf []) x.id x.s x.v w (by decide) (by omega) (by omega) h)
  rw [ck_bad (by rw [rd_type _ (by decide)]; decide)] at KK
  have hq0 : ∀ W, (Op.equalIn 10000 23 (.agg #[.int .u8 0, .int .u8 0, .string (bOf [])]) (.agg #[.int .u8 0, .int .u8 0, .string ⟨#[]⟩])).run Tryd.prog W = .ok true W := pk_eq (c := (0 : UInt8)) (c' := (0 : UInt8)) (i := (0 : UInt8)) (i' := (0 : UInt8)) (s := (bOf [])) (s' := (bOf [])) (pk_same _ _ _)
  have hq1 : ∀ W, (binOp .eql 23 (.agg #[.int .u8 0, .int .u8 0, .string (bOf [])]) (.agg #[.int .u8 0, .int .u8 0, .string ⟨#[]⟩])).run Tryd.prog W = .ok (.bool true) W := pk_eql (c := (0 : UInt8)) (c' := (0 : UInt8)) (i := (0 : UInt8)) (i' := (0 : UInt8)) (s := (bOf [])) (s' := (bOf [])) (pk_same _ _ _)
  have hq2 : ∀ W, (binOp .neq 23 (.agg #[.int .u8 0, .int .u8 0, .string (bOf [])]) (.agg #[.int .u8 0, .int .u8 0, .string ⟨#[]⟩])).run Tryd.prog W = .ok (.bool false) W := pk_neq (c := (0 : UInt8)) (c' := (0 : UInt8)) (i := (0 : UInt8)) (i' := (0 : UInt8)) (s := (bOf [])) (s' := (bOf [])) (pk_same _ _ _)
  clear h1
  go_enter Tryd.func5, Tryd.ntmps5
  have cC0 := HC.out.c0
  have cC1 := HC.out.c1
  have cC2 := HC.out.c2
  have cC3 := HC.out.c3
  have cC4 := HC.out.c4
  have cC5 := HC.out.c5
  have cC6 := HC.out.c6
  have cC7 := HC.out.c7
  go_wp2_with fail
  refine (KLg.out _).mono ?_
  rintro e w1 ⟨rfl, hb1⟩
  have HC := Lib.hid (HC.out.callee hb1)
  have HG := Lib.hid (HG.out.below hb1)
  have HH1 := Lib.hid (HH0.out.trans (hb1.mono HH0.out.size))
  clear hb1
  have cC0 := HC.out.c0
  have cC1 := HC.out.c1
  have cC2 := HC.out.c2
  have cC3 := HC.out.c3
  have cC4 := HC.out.c4
  have cC5 := HC.out.c5
  have cC6 := HC.out.c6
  have cC7 := HC.out.c7
  go_wp2_with fail
  refine (KQ.out _ HG.out).mono ?_
  rintro e w2 ⟨rfl, hb2⟩
  have HC := Lib.hid (HC.out.callee hb2)
  have HG := Lib.hid (HG.out.below hb2)
  have HH2 := Lib.hid (HH1.out.trans (hb2.mono HH1.out.size))
  clear hb2
  have HC := Lib.hid (HC.out.alloc _ : CsAt (w2.alloc (.cells #[.int .u8 0, .int .u8 0, .string (bOf [])] 23)) w.heap.size x)
  have HA := Lib.hid (at_new w2 (0 : UInt8) (0 : UInt8) (bOf []) : At (w2.alloc (.cells #[.int .u8 0, .int .u8 0, .string (bOf [])] 23)) w2.heap.size (0 : UInt8) (0 : UInt8) (bOf []))
  have HG := Lib.hid (HG.out.below ((Below.refl w2.heap.size w2).alloc (Nat.le_refl _) _) : Globs (w2.alloc (.cells #[.int .u8 0, .int .u8 0, .string (bOf [])] 23)))
  have HH2 := Lib.hid (HH2.out.alloc HH2.out.size _ : Below w.heap.size w (w2.alloc (.cells #[.int .u8 0, .int .u8 0, .string (bOf [])] 23)))
  have cC0 := HC.out.c0
  have cC1 := HC.out.c1
  have cC2 := HC.out.c2
  have cC3 := HC.out.c3
  have cC4 := HC.out.c4
  have cC5 := HC.out.c5
  have cC6 := HC.out.c6
  have cC7 := HC.out.c7
  have cA0 := HA.out.c0
  have cA1 := HA.out.c1
  have cA2 := HA.out.c2
  go_wp2_with fail
  refine (KK.out _ HG.out).mono ?_
  rintro e w3 ⟨rfl, hb3⟩
  clear HA
  have HC := Lib.hid (HC.out.callee hb3)
  have HG := Lib.hid (HG.out.below hb3)
  have HH3 := Lib.hid (HH2.out.trans (hb3.mono HH2.out.size))
  clear hb3
  go_wp2_with fail
  refine (alive_any _ HG.out).mono ?_
  rintro e w4 ⟨rfl, hb4⟩
  have HC := Lib.hid (HC.out.callee hb4)
  have HG := Lib.hid (HG.out.below hb4)
  have HH4 := Lib.hid (HH3.out.trans (hb4.mono HH3.out.size))
  clear hb4
  go_wp2
  go_ret
  exact ⟨rfl, HH4.out⟩
set_option maxHeartbeats 8000000 in
set_option maxRecDepth 100000 in
theorem w_same (x : Cas) (o : UInt8) (w : World) (hs : x.s.size ≤ 4096) (hv : x.v.size ≤ 4096) (hn : x.n.size ≤ 4096) (hd : x.p.d.size ≤ 4096) (hl : lgB x = false) (hG : Globs w) (h1 : chE x.v x.n = 0) (ho : o = x.id) :
    Calls Tryd.prog 5 #[.agg #[.int .u8 x.id.toNat, .string x.s, .string x.v, .string x.n, .bool x.b, .int .u8 x.p.c.toNat, .int .u8 x.p.i.toNat, .string x.p.d], .int .u8 o.toNat] w fun e w' => e = .returned (.bool true) ∧ Below w.heap.size w w' := by
  have HG := Lib.hid hG; clear hG
  have HH0 := Lib.hid (Below.refl w.heap.size w)
  have HC := Lib.hid (cs_new w x)
  have HH0 := Lib.hid (HH0.out.alloc HH0.out.size _ : Below w.heap.size w (w.alloc (.cells #[.int .u8 x.id.toNat, .string x.s, .string x.v, .string x.n, .bool x.b, .int .u8 x.p.c.toNat, .int .u8 x.p.i.toNat, .string x.p.d] 25)))
  have HG := Lib.hid (HG.out.below HH0.out)
  have KLg := Lib.hid (fun W => long_any x W (by omega) (by omega) (by omega) (by omega))
  rw [hl] at KLg
  have h2 := chE_zero h1
  have hD := dg_size x.id x.s x.v
  have hR := resp_read (v := x.v) hD h2.2.2
  have KQ := Lib.hid (fun w h => response_any x.id x.s x.v x.n w (by omega) (by omega) (by omega) h)
  rw [pkV_ok h1] at KQ
  have hz1 : (vn (dg x.id x.s x.v) x.n).size ≤ 1000 := by rw [vn_size]; omega
  have KR := Lib.hid (fun w => read_any 2 x.id (vn (dg x.id x.s x.v) x.n) w (by unfold maxLen; omega))
  rw [hR.2.1] at KR
  have KP := Lib.hid (fun w h => proof_sum x.id x.s x.v w (by omega) (by omega) h)
  have K1 := Lib.hid (fun w h => check_any 2 x.id (vn (dg x.id x.s x.v) x.n) x.id x.s x.v w (by unfold maxLen; omega) (by omega) (by omega) h)
  rw [ck_val hR.1, decide_eq_true hR.2.2] at K1
  have K2 := Lib.hid (fun w h => check_any 1 x.id (vn (dg x.id x.s x.v) x.n) x.id x.s x.v w (by unfold maxLen; omega) (by omega) (by omega) h)
  rw [ck_code (by decide)] at K2
  have ho1 : ((o.toNat : Int) == x.id.toNat) = true := by rw [ho]; simp
  have ho2 : ((o.toNat : Int) != x.id.toNat) = false := by rw [bne, ho1]; rfl
  have hs5 : (ByteArray.extract (dg x.id x.s x.v) 0 15).size = 15 := by rw [extract_front, size_bOf, List.length_take, ← size_toList, hD]; rfl
  have K4 := Lib.hid (fun w h => check_any 2 x.id (vn ((dg x.id x.s x.v).extract 0 15) x.n) x.id x.s x.v w (by unfold maxLen; rw [vn_size]; omega) (by omega) (by omega) h)
  rw [ck_val (short_rd hD h2.2.2), decide_eq_false (short_no hD h2.2.2), vn15 hD] at K4
  have hR5 := resp_read (v := x.v) (n := (⟨#[111, 116, 104, 101, 114]⟩ : ByteArray)) hD (by decide)
  have K5 := Lib.hid (fun w h => check_any 2 x.id (vn (dg x.id x.s x.v) ⟨#[111, 116, 104, 101, 114]⟩) x.id x.s x.v w (by unfold maxLen; rw [vn_size, hD]; show _ + 5 ≤ _; omega) (by omega) (by omega) h)
  rw [ck_val hR5.1, decide_eq_true hR5.2.2, vn16 hD] at K5
  generalize vn (dg x.id x.s x.v) x.n = D1 at *
  generalize dg x.id x.s x.v = G at *
  have f1 := beq_self x.n
  have f2 := beq_self G
  have hn2 : x.n.size ≤ 255 := h2.2.2
  have hcv := fun W : World => Oct.conv_new (P := Tryd.prog) W 39 9 5 5 (by kernel_rfl) (by kernel_rfl) (by kernel_rfl) [(x.id.toNat : Int)] 1
  rw [one_byte] at hcv
  simp only [List.length_cons, List.length_nil, List.map_cons, List.map_nil] at hcv
  have hz2 : (bOf [x.id]).size ≤ 1 := by rw [size_bOf]; exact Nat.le_refl _
  generalize bOf [x.id] = I at *
  have hmin : min (15 : Int) (G.size : Int) = 15 := by rw [hD]; rfl
  clear h1 hR hR5 h2 ho
  go_enter Tryd.func5, Tryd.ntmps5
  have cC0 := HC.out.c0
  have cC1 := HC.out.c1
  have cC2 := HC.out.c2
  have cC3 := HC.out.c3
  have cC4 := HC.out.c4
  have cC5 := HC.out.c5
  have cC6 := HC.out.c6
  have cC7 := HC.out.c7
  go_wp2_with fail
  refine (KLg.out _).mono ?_
  rintro e w1 ⟨rfl, hb1⟩
  have HC := Lib.hid (HC.out.callee hb1)
  have HG := Lib.hid (HG.out.below hb1)
  have HH1 := Lib.hid (HH0.out.trans (hb1.mono HH0.out.size))
  clear hb1
  have cC0 := HC.out.c0
  have cC1 := HC.out.c1
  have cC2 := HC.out.c2
  have cC3 := HC.out.c3
  have cC4 := HC.out.c4
  have cC5 := HC.out.c5
  have cC6 := HC.out.c6
  have cC7 := HC.out.c7
  go_wp2_with fail
  refine (KQ.out _ HG.out).mono ?_
  rintro e w2 ⟨rfl, hb2⟩
  have HC := Lib.hid (HC.out.callee hb2)
  have HG := Lib.hid (HG.out.below hb2)
  have HH2 := Lib.hid (HH1.out.trans (hb2.mono HH1.out.size))
  clear hb2
  have HC := Lib.hid (HC.out.alloc _ : CsAt (w2.alloc (.cells #[.int .u8 2, .int .u8 x.id.toNat, .string D1] 23)) w.heap.size x)
  have HA := Lib.hid (at_new w2 (2 : UInt8) x.id D1 : At (w2.alloc (.cells #[.int .u8 2, .int .u8 x.id.toNat, .string D1] 23)) w2.heap.size (2 : UInt8) x.id D1)
  have HG := Lib.hid (HG.out.below ((Below.refl w2.heap.size w2).alloc (Nat.le_refl _) _) : Globs (w2.alloc (.cells #[.int .u8 2, .int .u8 x.id.toNat, .string D1] 23)))
  have HH2 := Lib.hid (HH2.out.alloc HH2.out.size _ : Below w.heap.size w (w2.alloc (.cells #[.int .u8 2, .int .u8 x.id.toNat, .string D1] 23)))
  have cC0 := HC.out.c0
  have cC1 := HC.out.c1
  have cC2 := HC.out.c2
  have cC3 := HC.out.c3
  have cC4 := HC.out.c4
  have cC5 := HC.out.c5
  have cC6 := HC.out.c6
  have cC7 := HC.out.c7
  have cA0 := HA.out.c0
  have cA1 := HA.out.c1
  have cA2 := HA.out.c2
  go_wp2_with fail
  refine (KR.out _).mono ?_
  rintro e w3 ⟨rfl, hb3⟩
  have HC := Lib.hid (HC.out.callee hb3)
  have HA := Lib.hid (HA.out.callee hb3)
  have HG := Lib.hid (HG.out.below hb3)
  have HH3 := Lib.hid (HH2.out.trans (hb3.mono HH2.out.size))
  clear hb3
  have cC0 := HC.out.c0
  have cC1 := HC.out.c1
  have cC2 := HC.out.c2
  have cC3 := HC.out.c3
  have cC4 := HC.out.c4
  have cC5 := HC.out.c5
  have cC6 := HC.out.c6
  have cC7 := HC.out.c7
  have cA0 := HA.out.c0
  have cA1 := HA.out.c1
  have cA2 := HA.out.c2
  have hw3 : Below w3.heap.size w3 ((w3.alloc (.cells #[.int .u8 x.id.toNat] 5)).alloc (.cells #[.string I, .string x.s, .string x.v] 9)) := ((Below.refl _ w3).alloc (Nat.le_refl _) _).alloc (by rw [World.size_alloc]; omega) _
  have HCn := Lib.hid (HC.out.callee hw3)
  have HAn := Lib.hid (HA.out.callee hw3)
  have HGn := Lib.hid (HG.out.below hw3)
  have HHn := Lib.hid (HH3.out.trans (hw3.mono HH3.out.size))
  have KPn := Lib.hid (KP.out w3 HGn.out)
  clear KP
  have dC1 := (HC.out.alloc (.cells #[.int .u8 x.id.toNat] 5)).c1
  have dC2 := (HC.out.alloc (.cells #[.int .u8 x.id.toNat] 5)).c2
  go_wp2_with fail
  refine KPn.out.mono ?_
  rintro e w4 ⟨rfl, hb4⟩
  clear HC HA HG HH3 hw3 KPn
  have HC := HCn
  have HA := HAn
  have HG := HGn
  clear HCn HAn HGn
  have HC := Lib.hid (HC.out.callee hb4)
  have HA := Lib.hid (HA.out.callee hb4)
  have HG := Lib.hid (HG.out.below hb4)
  have HH4 := Lib.hid (HHn.out.trans (hb4.mono HHn.out.size))
  clear hb4
  have cC0 := HC.out.c0
  have cC1 := HC.out.c1
  have cC2 := HC.out.c2
  have cC3 := HC.out.c3
  have cC4 := HC.out.c4
  have cC5 := HC.out.c5
  have cC6 := HC.out.c6
  have cC7 := HC.out.c7
  have cA0 := HA.out.c0
  have cA1 := HA.out.c1
  have cA2 := HA.out.c2
  go_wp2_with fail
  refine (K1.out _ HG.out).mono ?_
  rintro e w5 ⟨rfl, hb5⟩
  have HC := Lib.hid (HC.out.callee hb5)
  have HA := Lib.hid (HA.out.callee hb5)
  have HG := Lib.hid (HG.out.below hb5)
  have HH5 := Lib.hid (HH4.out.trans (hb5.mono HH4.out.size))
  clear hb5
  have cC0 := HC.out.c0
  have cC1 := HC.out.c1
  have cC2 := HC.out.c2
  have cC3 := HC.out.c3
  have cC4 := HC.out.c4
  have cC5 := HC.out.c5
  have cC6 := HC.out.c6
  have cC7 := HC.out.c7
  have cA0 := HA.out.c0
  have cA1 := HA.out.c1
  have cA2 := HA.out.c2
  have HC := Lib.hid (HC.out.alloc _ : CsAt (w5.alloc (.cells #[.int .u8 1, .int .u8 x.id.toNat, .string D1] 23)) w.heap.size x)
  have HA := Lib.hid (HA.out.alloc _ : At (w5.alloc (.cells #[.int .u8 1, .int .u8 x.id.toNat, .string D1] 23)) w2.heap.size (2 : UInt8) x.id D1)
  have HQ := Lib.hid (at_new w5 (1 : UInt8) x.id D1 : At (w5.alloc (.cells #[.int .u8 1, .int .u8 x.id.toNat, .string D1] 23)) w5.heap.size (1 : UInt8) x.id D1)
  have HG := Lib.hid (HG.out.below ((Below.refl w5.heap.size w5).alloc (Nat.le_refl _) _) : Globs (w5.alloc (.cells #[.int .u8 1, .int .u8 x.id.toNat, .string D1] 23)))
  have HH5 := Lib.hid (HH5.out.alloc HH5.out.size _ : Below w.heap.size w (w5.alloc (.cells #[.int .u8 1, .int .u8 x.id.toNat, .string D1] 23)))
  have cC0 := HC.out.c0
  have cC1 := HC.out.c1
  have cC2 := HC.out.c2
  have cC3 := HC.out.c3
  have cC4 := HC.out.c4
  have cC5 := HC.out.c5
  have cC6 := HC.out.c6
  have cC7 := HC.out.c7
  have cA0 := HA.out.c0
  have cA1 := HA.out.c1
  have cA2 := HA.out.c2
  have cQ0 := HQ.out.c0
  have cQ1 := HQ.out.c1
  have cQ2 := HQ.out.c2
  go_wp2_with fail
  refine (K2.out _ HG.out).mono ?_
  rintro e w6 ⟨rfl, hb6⟩
  clear HQ
  have HC := Lib.hid (HC.out.callee hb6)
  have HA := Lib.hid (HA.out.callee hb6)
  have HG := Lib.hid (HG.out.below hb6)
  have HH6 := Lib.hid (HH5.out.trans (hb6.mono HH5.out.size))
  clear hb6
  have cC0 := HC.out.c0
  have cC1 := HC.out.c1
  have cC2 := HC.out.c2
  have cC3 := HC.out.c3
  have cC4 := HC.out.c4
  have cC5 := HC.out.c5
  have cC6 := HC.out.c6
  have cC7 := HC.out.c7
  have cA0 := HA.out.c0
  have cA1 := HA.out.c1
  have cA2 := HA.out.c2
  have HC := Lib.hid (HC.out.alloc _ : CsAt (w6.alloc (.cells #[.int .u8 2, .int .u8 x.id.toNat, .string ((⟨#[15]⟩ : ByteArray) ++ G.extract 0 15 ++ x.n)] 23)) w.heap.size x)
  have HA := Lib.hid (HA.out.alloc _ : At (w6.alloc (.cells #[.int .u8 2, .int .u8 x.id.toNat, .string ((⟨#[15]⟩ : ByteArray) ++ G.extract 0 15 ++ x.n)] 23)) w2.heap.size (2 : UInt8) x.id D1)
  have HR := Lib.hid (at_new w6 (2 : UInt8) x.id ((⟨#[15]⟩ : ByteArray) ++ G.extract 0 15 ++ x.n) : At (w6.alloc (.cells #[.int .u8 2, .int .u8 x.id.toNat, .string ((⟨#[15]⟩ : ByteArray) ++ G.extract 0 15 ++ x.n)] 23)) w6.heap.size (2 : UInt8) x.id ((⟨#[15]⟩ : ByteArray) ++ G.extract 0 15 ++ x.n))
  have HG := Lib.hid (HG.out.below ((Below.refl w6.heap.size w6).alloc (Nat.le_refl _) _) : Globs (w6.alloc (.cells #[.int .u8 2, .int .u8 x.id.toNat, .string ((⟨#[15]⟩ : ByteArray) ++ G.extract 0 15 ++ x.n)] 23)))
  have HH6 := Lib.hid (HH6.out.alloc HH6.out.size _ : Below w.heap.size w (w6.alloc (.cells #[.int .u8 2, .int .u8 x.id.toNat, .string ((⟨#[15]⟩ : ByteArray) ++ G.extract 0 15 ++ x.n)] 23)))
  have cC0 := HC.out.c0
  have cC1 := HC.out.c1
  have cC2 := HC.out.c2
  have cC3 := HC.out.c3
  have cC4 := HC.out.c4
  have cC5 := HC.out.c5
  have cC6 := HC.out.c6
  have cC7 := HC.out.c7
  have cA0 := HA.out.c0
  have cA1 := HA.out.c1
  have cA2 := HA.out.c2
  have cR0 := HR.out.c0
  have cR1 := HR.out.c1
  have cR2 := HR.out.c2
  go_wp2_with fail
  refine (K4.out _ HG.out).mono ?_
  rintro e w7 ⟨rfl, hb7⟩
  clear HR
  have HC := Lib.hid (HC.out.callee hb7)
  have HA := Lib.hid (HA.out.callee hb7)
  have HG := Lib.hid (HG.out.below hb7)
  have HH7 := Lib.hid (HH6.out.trans (hb7.mono HH6.out.size))
  clear hb7
  have cC0 := HC.out.c0
  have cC1 := HC.out.c1
  have cC2 := HC.out.c2
  have cC3 := HC.out.c3
  have cC4 := HC.out.c4
  have cC5 := HC.out.c5
  have cC6 := HC.out.c6
  have cC7 := HC.out.c7
  have cA0 := HA.out.c0
  have cA1 := HA.out.c1
  have cA2 := HA.out.c2
  have HC := Lib.hid (HC.out.alloc _ : CsAt (w7.alloc (.cells #[.int .u8 2, .int .u8 x.id.toNat, .string ((⟨#[16]⟩ : ByteArray) ++ G ++ (⟨#[111, 116, 104, 101, 114]⟩ : ByteArray))] 23)) w.heap.size x)
  have HA := Lib.hid (HA.out.alloc _ : At (w7.alloc (.cells #[.int .u8 2, .int .u8 x.id.toNat, .string ((⟨#[16]⟩ : ByteArray) ++ G ++ (⟨#[111, 116, 104, 101, 114]⟩ : ByteArray))] 23)) w2.heap.size (2 : UInt8) x.id D1)
  have HR := Lib.hid (at_new w7 (2 : UInt8) x.id ((⟨#[16]⟩ : ByteArray) ++ G ++ (⟨#[111, 116, 104, 101, 114]⟩ : ByteArray)) : At (w7.alloc (.cells #[.int .u8 2, .int .u8 x.id.toNat, .string ((⟨#[16]⟩ : ByteArray) ++ G ++ (⟨#[111, 116, 104, 101, 114]⟩ : ByteArray))] 23)) w7.heap.size (2 : UInt8) x.id ((⟨#[16]⟩ : ByteArray) ++ G ++ (⟨#[111, 116, 104, 101, 114]⟩ : ByteArray)))
  have HG := Lib.hid (HG.out.below ((Below.refl w7.heap.size w7).alloc (Nat.le_refl _) _) : Globs (w7.alloc (.cells #[.int .u8 2, .int .u8 x.id.toNat, .string ((⟨#[16]⟩ : ByteArray) ++ G ++ (⟨#[111, 116, 104, 101, 114]⟩ : ByteArray))] 23)))
  have HH7 := Lib.hid (HH7.out.alloc HH7.out.size _ : Below w.heap.size w (w7.alloc (.cells #[.int .u8 2, .int .u8 x.id.toNat, .string ((⟨#[16]⟩ : ByteArray) ++ G ++ (⟨#[111, 116, 104, 101, 114]⟩ : ByteArray))] 23)))
  have cC0 := HC.out.c0
  have cC1 := HC.out.c1
  have cC2 := HC.out.c2
  have cC3 := HC.out.c3
  have cC4 := HC.out.c4
  have cC5 := HC.out.c5
  have cC6 := HC.out.c6
  have cC7 := HC.out.c7
  have cA0 := HA.out.c0
  have cA1 := HA.out.c1
  have cA2 := HA.out.c2
  have cR0 := HR.out.c0
  have cR1 := HR.out.c1
  have cR2 := HR.out.c2
  go_wp2_with fail
  refine (K5.out _ HG.out).mono ?_
  rintro e w8 ⟨rfl, hb8⟩
  clear HR
  have HC := Lib.hid (HC.out.callee hb8)
  have HA := Lib.hid (HA.out.callee hb8)
  have HG := Lib.hid (HG.out.below hb8)
  have HH8 := Lib.hid (HH7.out.trans (hb8.mono HH7.out.size))
  clear hb8
  go_wp2_with fail
  refine (alive_any _ HG.out).mono ?_
  rintro e w9 ⟨rfl, hb9⟩
  have HC := Lib.hid (HC.out.callee hb9)
  have HA := Lib.hid (HA.out.callee hb9)
  have HG := Lib.hid (HG.out.below hb9)
  have HH9 := Lib.hid (HH8.out.trans (hb9.mono HH8.out.size))
  clear hb9
  go_wp2
  go_ret
  exact ⟨rfl, HH9.out⟩
set_option maxHeartbeats 8000000 in
set_option maxRecDepth 100000 in
theorem w_other (x : Cas) (o : UInt8) (w : World) (hs : x.s.size ≤ 4096) (hv : x.v.size ≤ 4096) (hn : x.n.size ≤ 4096) (hd : x.p.d.size ≤ 4096) (hl : lgB x = false) (hG : Globs w) (h1 : chE x.v x.n = 0) (ho : o ≠ x.id) :
    Calls Tryd.prog 5 #[.agg #[.int .u8 x.id.toNat, .string x.s, .string x.v, .string x.n, .bool x.b, .int .u8 x.p.c.toNat, .int .u8 x.p.i.toNat, .string x.p.d], .int .u8 o.toNat] w fun e w' => e = .returned (.bool true) ∧ Below w.heap.size w w' := by
  have HG := Lib.hid hG; clear hG
  have HH0 := Lib.hid (Below.refl w.heap.size w)
  have HC := Lib.hid (cs_new w x)
  have HH0 := Lib.hid (HH0.out.alloc HH0.out.size _ : Below w.heap.size w (w.alloc (.cells #[.int .u8 x.id.toNat, .string x.s, .string x.v, .string x.n, .bool x.b, .int .u8 x.p.c.toNat, .int .u8 x.p.i.toNat, .string x.p.d] 25)))
  have HG := Lib.hid (HG.out.below HH0.out)
  have KLg := Lib.hid (fun W => long_any x W (by omega) (by omega) (by omega) (by omega))
  rw [hl] at KLg
  have h2 := chE_zero h1
  have hD := dg_size x.id x.s x.v
  have hR := resp_read (v := x.v) hD h2.2.2
  have KQ := Lib.hid (fun w h => response_any x.id x.s x.v x.n w (by omega) (by omega) (by omega) h)
  rw [pkV_ok h1] at KQ
  have hz1 : (vn (dg x.id x.s x.v) x.n).size ≤ 1000 := by rw [vn_size]; omega
  have KR := Lib.hid (fun w => read_any 2 x.id (vn (dg x.id x.s x.v) x.n) w (by unfold maxLen; omega))
  rw [hR.2.1] at KR
  have KP := Lib.hid (fun w h => proof_sum x.id x.s x.v w (by omega) (by omega) h)
  have K1 := Lib.hid (fun w h => check_any 2 x.id (vn (dg x.id x.s x.v) x.n) x.id x.s x.v w (by unfold maxLen; omega) (by omega) (by omega) h)
  rw [ck_val hR.1, decide_eq_true hR.2.2] at K1
  have K2 := Lib.hid (fun w h => check_any 1 x.id (vn (dg x.id x.s x.v) x.n) x.id x.s x.v w (by unfold maxLen; omega) (by omega) (by omega) h)
  rw [ck_code (by decide)] at K2
  have K3 := Lib.hid (fun w h => check_any 2 x.id (vn (dg x.id x.s x.v) x.n) o x.s x.v w (by unfold maxLen; omega) (by omega) (by omega) h)
  rw [ck_id (fun e => ho e.symm)] at K3
  have ho1 : ((o.toNat : Int) == x.id.toNat) = false := by rw [beq_eq_false_iff_ne]; intro e; exact ho (UInt8.toNat_inj.1 (by omega))
  have ho2 : ((o.toNat : Int) != x.id.toNat) = true := by rw [bne, ho1]; rfl
  have hs5 : (ByteArray.extract (dg x.id x.s x.v) 0 15).size = 15 := by rw [extract_front, size_bOf, List.length_take, ← size_toList, hD]; rfl
  have K4 := Lib.hid (fun w h => check_any 2 x.id (vn ((dg x.id x.s x.v).extract 0 15) x.n) x.id x.s x.v w (by unfold maxLen; rw [vn_size]; omega) (by omega) (by omega) h)
  rw [ck_val (short_rd hD h2.2.2), decide_eq_false (short_no hD h2.2.2), vn15 hD] at K4
  have hR5 := resp_read (v := x.v) (n := (⟨#[111, 116, 104, 101, 114]⟩ : ByteArray)) hD (by decide)
  have K5 := Lib.hid (fun w h => check_any 2 x.id (vn (dg x.id x.s x.v) ⟨#[111, 116, 104, 101, 114]⟩) x.id x.s x.v w (by unfold maxLen; rw [vn_size, hD]; show _ + 5 ≤ _; omega) (by omega) (by omega) h)
  rw [ck_val hR5.1, decide_eq_true hR5.2.2, vn16 hD] at K5
  generalize vn (dg x.id x.s x.v) x.n = D1 at *
  generalize dg x.id x.s x.v = G at *
  have f1 := beq_self x.n
  have f2 := beq_self G
  have hn2 : x.n.size ≤ 255 := h2.2.2
  have hcv := fun W : World => Oct.conv_new (P := Tryd.prog) W 39 9 5 5 (by kernel_rfl) (by kernel_rfl) (by kernel_rfl) [(x.id.toNat : Int)] 1
  rw [one_byte] at hcv
  simp only [List.length_cons, List.length_nil, List.map_cons, List.map_nil] at hcv
  have hz2 : (bOf [x.id]).size ≤ 1 := by rw [size_bOf]; exact Nat.le_refl _
  generalize bOf [x.id] = I at *
  have hmin : min (15 : Int) (G.size : Int) = 15 := by rw [hD]; rfl
  clear h1 hR hR5 h2 ho
  go_enter Tryd.func5, Tryd.ntmps5
  have cC0 := HC.out.c0
  have cC1 := HC.out.c1
  have cC2 := HC.out.c2
  have cC3 := HC.out.c3
  have cC4 := HC.out.c4
  have cC5 := HC.out.c5
  have cC6 := HC.out.c6
  have cC7 := HC.out.c7
  go_wp2_with fail
  refine (KLg.out _).mono ?_
  rintro e w1 ⟨rfl, hb1⟩
  have HC := Lib.hid (HC.out.callee hb1)
  have HG := Lib.hid (HG.out.below hb1)
  have HH1 := Lib.hid (HH0.out.trans (hb1.mono HH0.out.size))
  clear hb1
  have cC0 := HC.out.c0
  have cC1 := HC.out.c1
  have cC2 := HC.out.c2
  have cC3 := HC.out.c3
  have cC4 := HC.out.c4
  have cC5 := HC.out.c5
  have cC6 := HC.out.c6
  have cC7 := HC.out.c7
  go_wp2_with fail
  refine (KQ.out _ HG.out).mono ?_
  rintro e w2 ⟨rfl, hb2⟩
  have HC := Lib.hid (HC.out.callee hb2)
  have HG := Lib.hid (HG.out.below hb2)
  have HH2 := Lib.hid (HH1.out.trans (hb2.mono HH1.out.size))
  clear hb2
  have HC := Lib.hid (HC.out.alloc _ : CsAt (w2.alloc (.cells #[.int .u8 2, .int .u8 x.id.toNat, .string D1] 23)) w.heap.size x)
  have HA := Lib.hid (at_new w2 (2 : UInt8) x.id D1 : At (w2.alloc (.cells #[.int .u8 2, .int .u8 x.id.toNat, .string D1] 23)) w2.heap.size (2 : UInt8) x.id D1)
  have HG := Lib.hid (HG.out.below ((Below.refl w2.heap.size w2).alloc (Nat.le_refl _) _) : Globs (w2.alloc (.cells #[.int .u8 2, .int .u8 x.id.toNat, .string D1] 23)))
  have HH2 := Lib.hid (HH2.out.alloc HH2.out.size _ : Below w.heap.size w (w2.alloc (.cells #[.int .u8 2, .int .u8 x.id.toNat, .string D1] 23)))
  have cC0 := HC.out.c0
  have cC1 := HC.out.c1
  have cC2 := HC.out.c2
  have cC3 := HC.out.c3
  have cC4 := HC.out.c4
  have cC5 := HC.out.c5
  have cC6 := HC.out.c6
  have cC7 := HC.out.c7
  have cA0 := HA.out.c0
  have cA1 := HA.out.c1
  have cA2 := HA.out.c2
  go_wp2_with fail
  refine (KR.out _).mono ?_
  rintro e w3 ⟨rfl, hb3⟩
  have HC := Lib.hid (HC.out.callee hb3)
  have HA := Lib.hid (HA.out.callee hb3)
  have HG := Lib.hid (HG.out.below hb3)
  have HH3 := Lib.hid (HH2.out.trans (hb3.mono HH2.out.size))
  clear hb3
  have cC0 := HC.out.c0
  have cC1 := HC.out.c1
  have cC2 := HC.out.c2
  have cC3 := HC.out.c3
  have cC4 := HC.out.c4
  have cC5 := HC.out.c5
  have cC6 := HC.out.c6
  have cC7 := HC.out.c7
  have cA0 := HA.out.c0
  have cA1 := HA.out.c1
  have cA2 := HA.out.c2
  have hw3 : Below w3.heap.size w3 ((w3.alloc (.cells #[.int .u8 x.id.toNat] 5)).alloc (.cells #[.string I, .string x.s, .string x.v] 9)) := ((Below.refl _ w3).alloc (Nat.le_refl _) _).alloc (by rw [World.size_alloc]; omega) _
  have HCn := Lib.hid (HC.out.callee hw3)
  have HAn := Lib.hid (HA.out.callee hw3)
  have HGn := Lib.hid (HG.out.below hw3)
  have HHn := Lib.hid (HH3.out.trans (hw3.mono HH3.out.size))
  have KPn := Lib.hid (KP.out w3 HGn.out)
  clear KP
  have dC1 := (HC.out.alloc (.cells #[.int .u8 x.id.toNat] 5)).c1
  have dC2 := (HC.out.alloc (.cells #[.int .u8 x.id.toNat] 5)).c2
  go_wp2_with fail
  refine KPn.out.mono ?_
  rintro e w4 ⟨rfl, hb4⟩
  clear HC HA HG HH3 hw3 KPn
  have HC := HCn
  have HA := HAn
  have HG := HGn
  clear HCn HAn HGn
  have HC := Lib.hid (HC.out.callee hb4)
  have HA := Lib.hid (HA.out.callee hb4)
  have HG := Lib.hid (HG.out.below hb4)
  have HH4 := Lib.hid (HHn.out.trans (hb4.mono HHn.out.size))
  clear hb4
  have cC0 := HC.out.c0
  have cC1 := HC.out.c1
  have cC2 := HC.out.c2
  have cC3 := HC.out.c3
  have cC4 := HC.out.c4
  have cC5 := HC.out.c5
  have cC6 := HC.out.c6
  have cC7 := HC.out.c7
  have cA0 := HA.out.c0
  have cA1 := HA.out.c1
  have cA2 := HA.out.c2
  go_wp2_with fail
  refine (K1.out _ HG.out).mono ?_
  rintro e w5 ⟨rfl, hb5⟩
  have HC := Lib.hid (HC.out.callee hb5)
  have HA := Lib.hid (HA.out.callee hb5)
  have HG := Lib.hid (HG.out.below hb5)
  have HH5 := Lib.hid (HH4.out.trans (hb5.mono HH4.out.size))
  clear hb5
  have cC0 := HC.out.c0
  have cC1 := HC.out.c1
  have cC2 := HC.out.c2
  have cC3 := HC.out.c3
  have cC4 := HC.out.c4
  have cC5 := HC.out.c5
  have cC6 := HC.out.c6
  have cC7 := HC.out.c7
  have cA0 := HA.out.c0
  have cA1 := HA.out.c1
  have cA2 := HA.out.c2
  have HC := Lib.hid (HC.out.alloc _ : CsAt (w5.alloc (.cells #[.int .u8 1, .int .u8 x.id.toNat, .string D1] 23)) w.heap.size x)
  have HA := Lib.hid (HA.out.alloc _ : At (w5.alloc (.cells #[.int .u8 1, .int .u8 x.id.toNat, .string D1] 23)) w2.heap.size (2 : UInt8) x.id D1)
  have HQ := Lib.hid (at_new w5 (1 : UInt8) x.id D1 : At (w5.alloc (.cells #[.int .u8 1, .int .u8 x.id.toNat, .string D1] 23)) w5.heap.size (1 : UInt8) x.id D1)
  have HG := Lib.hid (HG.out.below ((Below.refl w5.heap.size w5).alloc (Nat.le_refl _) _) : Globs (w5.alloc (.cells #[.int .u8 1, .int .u8 x.id.toNat, .string D1] 23)))
  have HH5 := Lib.hid (HH5.out.alloc HH5.out.size _ : Below w.heap.size w (w5.alloc (.cells #[.int .u8 1, .int .u8 x.id.toNat, .string D1] 23)))
  have cC0 := HC.out.c0
  have cC1 := HC.out.c1
  have cC2 := HC.out.c2
  have cC3 := HC.out.c3
  have cC4 := HC.out.c4
  have cC5 := HC.out.c5
  have cC6 := HC.out.c6
  have cC7 := HC.out.c7
  have cA0 := HA.out.c0
  have cA1 := HA.out.c1
  have cA2 := HA.out.c2
  have cQ0 := HQ.out.c0
  have cQ1 := HQ.out.c1
  have cQ2 := HQ.out.c2
  go_wp2_with fail
  refine (K2.out _ HG.out).mono ?_
  rintro e w6 ⟨rfl, hb6⟩
  clear HQ
  have HC := Lib.hid (HC.out.callee hb6)
  have HA := Lib.hid (HA.out.callee hb6)
  have HG := Lib.hid (HG.out.below hb6)
  have HH6 := Lib.hid (HH5.out.trans (hb6.mono HH5.out.size))
  clear hb6
  have cC0 := HC.out.c0
  have cC1 := HC.out.c1
  have cC2 := HC.out.c2
  have cC3 := HC.out.c3
  have cC4 := HC.out.c4
  have cC5 := HC.out.c5
  have cC6 := HC.out.c6
  have cC7 := HC.out.c7
  have cA0 := HA.out.c0
  have cA1 := HA.out.c1
  have cA2 := HA.out.c2
  go_wp2_with fail
  refine (K3.out _ HG.out).mono ?_
  rintro e w7 ⟨rfl, hb7⟩
  have HC := Lib.hid (HC.out.callee hb7)
  have HA := Lib.hid (HA.out.callee hb7)
  have HG := Lib.hid (HG.out.below hb7)
  have HH7 := Lib.hid (HH6.out.trans (hb7.mono HH6.out.size))
  clear hb7
  have cC0 := HC.out.c0
  have cC1 := HC.out.c1
  have cC2 := HC.out.c2
  have cC3 := HC.out.c3
  have cC4 := HC.out.c4
  have cC5 := HC.out.c5
  have cC6 := HC.out.c6
  have cC7 := HC.out.c7
  have cA0 := HA.out.c0
  have cA1 := HA.out.c1
  have cA2 := HA.out.c2
  have HC := Lib.hid (HC.out.alloc _ : CsAt (w7.alloc (.cells #[.int .u8 2, .int .u8 x.id.toNat, .string ((⟨#[15]⟩ : ByteArray) ++ G.extract 0 15 ++ x.n)] 23)) w.heap.size x)
  have HA := Lib.hid (HA.out.alloc _ : At (w7.alloc (.cells #[.int .u8 2, .int .u8 x.id.toNat, .string ((⟨#[15]⟩ : ByteArray) ++ G.extract 0 15 ++ x.n)] 23)) w2.heap.size (2 : UInt8) x.id D1)
  have HR := Lib.hid (at_new w7 (2 : UInt8) x.id ((⟨#[15]⟩ : ByteArray) ++ G.extract 0 15 ++ x.n) : At (w7.alloc (.cells #[.int .u8 2, .int .u8 x.id.toNat, .string ((⟨#[15]⟩ : ByteArray) ++ G.extract 0 15 ++ x.n)] 23)) w7.heap.size (2 : UInt8) x.id ((⟨#[15]⟩ : ByteArray) ++ G.extract 0 15 ++ x.n))
  have HG := Lib.hid (HG.out.below ((Below.refl w7.heap.size w7).alloc (Nat.le_refl _) _) : Globs (w7.alloc (.cells #[.int .u8 2, .int .u8 x.id.toNat, .string ((⟨#[15]⟩ : ByteArray) ++ G.extract 0 15 ++ x.n)] 23)))
  have HH7 := Lib.hid (HH7.out.alloc HH7.out.size _ : Below w.heap.size w (w7.alloc (.cells #[.int .u8 2, .int .u8 x.id.toNat, .string ((⟨#[15]⟩ : ByteArray) ++ G.extract 0 15 ++ x.n)] 23)))
  have cC0 := HC.out.c0
  have cC1 := HC.out.c1
  have cC2 := HC.out.c2
  have cC3 := HC.out.c3
  have cC4 := HC.out.c4
  have cC5 := HC.out.c5
  have cC6 := HC.out.c6
  have cC7 := HC.out.c7
  have cA0 := HA.out.c0
  have cA1 := HA.out.c1
  have cA2 := HA.out.c2
  have cR0 := HR.out.c0
  have cR1 := HR.out.c1
  have cR2 := HR.out.c2
  go_wp2_with fail
  refine (K4.out _ HG.out).mono ?_
  rintro e w8 ⟨rfl, hb8⟩
  clear HR
  have HC := Lib.hid (HC.out.callee hb8)
  have HA := Lib.hid (HA.out.callee hb8)
  have HG := Lib.hid (HG.out.below hb8)
  have HH8 := Lib.hid (HH7.out.trans (hb8.mono HH7.out.size))
  clear hb8
  have cC0 := HC.out.c0
  have cC1 := HC.out.c1
  have cC2 := HC.out.c2
  have cC3 := HC.out.c3
  have cC4 := HC.out.c4
  have cC5 := HC.out.c5
  have cC6 := HC.out.c6
  have cC7 := HC.out.c7
  have cA0 := HA.out.c0
  have cA1 := HA.out.c1
  have cA2 := HA.out.c2
  have HC := Lib.hid (HC.out.alloc _ : CsAt (w8.alloc (.cells #[.int .u8 2, .int .u8 x.id.toNat, .string ((⟨#[16]⟩ : ByteArray) ++ G ++ (⟨#[111, 116, 104, 101, 114]⟩ : ByteArray))] 23)) w.heap.size x)
  have HA := Lib.hid (HA.out.alloc _ : At (w8.alloc (.cells #[.int .u8 2, .int .u8 x.id.toNat, .string ((⟨#[16]⟩ : ByteArray) ++ G ++ (⟨#[111, 116, 104, 101, 114]⟩ : ByteArray))] 23)) w2.heap.size (2 : UInt8) x.id D1)
  have HR := Lib.hid (at_new w8 (2 : UInt8) x.id ((⟨#[16]⟩ : ByteArray) ++ G ++ (⟨#[111, 116, 104, 101, 114]⟩ : ByteArray)) : At (w8.alloc (.cells #[.int .u8 2, .int .u8 x.id.toNat, .string ((⟨#[16]⟩ : ByteArray) ++ G ++ (⟨#[111, 116, 104, 101, 114]⟩ : ByteArray))] 23)) w8.heap.size (2 : UInt8) x.id ((⟨#[16]⟩ : ByteArray) ++ G ++ (⟨#[111, 116, 104, 101, 114]⟩ : ByteArray)))
  have HG := Lib.hid (HG.out.below ((Below.refl w8.heap.size w8).alloc (Nat.le_refl _) _) : Globs (w8.alloc (.cells #[.int .u8 2, .int .u8 x.id.toNat, .string ((⟨#[16]⟩ : ByteArray) ++ G ++ (⟨#[111, 116, 104, 101, 114]⟩ : ByteArray))] 23)))
  have HH8 := Lib.hid (HH8.out.alloc HH8.out.size _ : Below w.heap.size w (w8.alloc (.cells #[.int .u8 2, .int .u8 x.id.toNat, .string ((⟨#[16]⟩ : ByteArray) ++ G ++ (⟨#[111, 116, 104, 101, 114]⟩ : ByteArray))] 23)))
  have cC0 := HC.out.c0
  have cC1 := HC.out.c1
  have cC2 := HC.out.c2
  have cC3 := HC.out.c3
  have cC4 := HC.out.c4
  have cC5 := HC.out.c5
  have cC6 := HC.out.c6
  have cC7 := HC.out.c7
  have cA0 := HA.out.c0
  have cA1 := HA.out.c1
  have cA2 := HA.out.c2
  have cR0 := HR.out.c0
  have cR1 := HR.out.c1
  have cR2 := HR.out.c2
  go_wp2_with fail
  refine (K5.out _ HG.out).mono ?_
  rintro e w9 ⟨rfl, hb9⟩
  clear HR
  have HC := Lib.hid (HC.out.callee hb9)
  have HA := Lib.hid (HA.out.callee hb9)
  have HG := Lib.hid (HG.out.below hb9)
  have HH9 := Lib.hid (HH8.out.trans (hb9.mono HH8.out.size))
  clear hb9
  go_wp2_with fail
  refine (alive_any _ HG.out).mono ?_
  rintro e w10 ⟨rfl, hb10⟩
  have HC := Lib.hid (HC.out.callee hb10)
  have HA := Lib.hid (HA.out.callee hb10)
  have HG := Lib.hid (HG.out.below hb10)
  have HH10 := Lib.hid (HH9.out.trans (hb10.mono HH9.out.size))
  clear hb10
  go_wp2
  go_ret
  exact ⟨rfl, HH10.out⟩
theorem small {x : Cas} (h : lgB x = false) : x.s.size ≤ 4096 ∧ x.v.size ≤ 4096 ∧ x.n.size ≤ 4096 ∧ x.p.d.size ≤ 4096 := by
  have := of_decide_eq_false h
  omega
set_option maxHeartbeats 8000000 in
set_option maxRecDepth 100000 in
theorem walk (x : Cas) (o : UInt8) (w : World) (hs : x.s.size ≤ 140737488351232) (hv : x.v.size ≤ 140737488351232) (hn : x.n.size ≤ 140737488351232) (hd : x.p.d.size ≤ 140737488351232) (hG : Globs w) :
    Calls Tryd.prog 5 #[.agg #[.int .u8 x.id.toNat, .string x.s, .string x.v, .string x.n, .bool x.b, .int .u8 x.p.c.toNat, .int .u8 x.p.i.toNat, .string x.p.d], .int .u8 o.toNat] w fun e w' => e = .returned (.bool true) ∧ Below w.heap.size w w' := by
  by_cases hl : lgB x = true
  · have HG := Lib.hid hG; clear hG
    have HH0 := Lib.hid (Below.refl w.heap.size w)
    have HC := Lib.hid (cs_new w x)
    have HH0 := Lib.hid (HH0.out.alloc HH0.out.size _ : Below w.heap.size w (w.alloc (.cells #[.int .u8 x.id.toNat, .string x.s, .string x.v, .string x.n, .bool x.b, .int .u8 x.p.c.toNat, .int .u8 x.p.i.toNat, .string x.p.d] 25)))
    have HG := Lib.hid (HG.out.below HH0.out)
    have KLg := Lib.hid (fun W => long_any x W hs hv hn hd)
    rw [hl] at KLg
    go_enter Tryd.func5, Tryd.ntmps5
    have cC0 := HC.out.c0
    have cC1 := HC.out.c1
    have cC2 := HC.out.c2
    have cC3 := HC.out.c3
    have cC4 := HC.out.c4
    have cC5 := HC.out.c5
    have cC6 := HC.out.c6
    have cC7 := HC.out.c7
    go_wp2_with fail
    refine (KLg.out _).mono ?_
    rintro e w1 ⟨rfl, hb1⟩
    have HC := Lib.hid (HC.out.callee hb1)
    have HG := Lib.hid (HG.out.below hb1)
    have HH1 := Lib.hid (HH0.out.trans (hb1.mono HH0.out.size))
    clear hb1
    go_wp2_with fail
    refine (alive_any _ HG.out).mono ?_
    rintro e w2 ⟨rfl, hb2⟩
    have HC := Lib.hid (HC.out.callee hb2)
    have HG := Lib.hid (HG.out.below hb2)
    have HH2 := Lib.hid (HH1.out.trans (hb2.mono HH1.out.size))
    clear hb2
    go_wp2
    go_ret
    exact ⟨rfl, HH2.out⟩
  · have hl : lgB x = false := by simpa using hl
    have h := small hl
    by_cases h1 : chE x.v x.n = 0
    · by_cases ho : o = x.id
      · exact w_same x o w h.1 h.2.1 h.2.2.1 h.2.2.2 hl hG h1 ho
      · exact w_other x o w h.1 h.2.1 h.2.2.1 h.2.2.2 hl hG h1 ho
    · exact w_no x o w h.1 h.2.1 h.2.2.1 h.2.2.2 hl hG h1

set_option maxRecDepth 100000 in
theorem lifted (os : Os) (started : os.Started) (H : Type) (enc : TypeId × Value → H) :
    ReturnsInHanded {} Tryd.checked os 5 .any (fun w args => (Rows.chapChecksSpec.pre enc Tryd.prog Tryd.f5 [] false w args ∧ laidMetH Tryd.prog laid2 w) ∧ sizedMet enc Tryd.prog Tryd.f5 (OpenSpec.ofChange Rows.chapChecksSpec) false w args)
      (Rows.chapChecksSpec.post enc Tryd.prog Tryd.f5 false true false false) := by
  refine returnsInHanded_of_change_and (C := Tryd.checked) (X := fun w _ => laidMetH Tryd.prog laid2 w) (fun _ _ _ hh h => h.of_heap hh) own started (by kernel_rfl) Tryd.func5
    (ChangeSpec.witness_shaped (enc := enc) (C := Tryd.checked) (os := os) (X := fun w _ => laidMetH Tryd.prog laid2 w) false (World.doorLaid Tryd.prog 400 os) #[.agg #[.int .u8 0, .string ByteArray.empty, .string ByteArray.empty, .string ByteArray.empty, .bool false, .int .u8 0, .int .u8 0, .string ByteArray.empty], .int .u8 0] 8 rfl (World.shaped_of_RefB (by kernel_rfl) (by kernel_rfl)) (by kernel_rfl) (by kernel_rfl) (by kernel_rfl) (door_met os _)) ?_
  intro W base args ds gs before hval0 hW _ hsz0 hL _
  have hsz : (DataW.weightsEach Tryd.prog (Tryd.f5.params.toList ++ Rows.chapChecksSpec.plain.varTypes Tryd.prog) (ds ++ gs)).all (· ≤ reachBytes) = true := hsz0
  have hval : ∀ (j : Nat) t v, Tryd.f5.params[j]? = some t → args[j]? = some v → Value.okWide Tryd.prog W .any base t v := hval0
  have hW' := hW
  obtain ⟨p, q, hA0, hV, rfl, hfz, hnd⟩ := hW
  have hlt := hW'.lt
  have hA : DataW.TrodAll enc Tryd.prog W 0 (fun _ => true) true Tryd.f5.params.toList args.toList ds p := hA0
  rw [Tryd.params5] at hA hval hsz
  obtain ⟨v0, vs0, d0, ds0, p0, q0, hargs, rfl, rfl, h0, r0⟩ := trodAll_cons hA
  obtain ⟨v1, vs1, d1, ds1, p1, q1, rfl, rfl, rfl, h1, r1⟩ := trodAll_cons r0
  obtain ⟨rfl, rfl, rfl⟩ := trodAll_nil r1
  obtain rfl : args = #[v0, v1] := by cases args; simp_all
  obtain ⟨rfl, rfl⟩ := trodVars_none hV
  obtain ⟨a0, rfl, ls0, lv0, ln0, ld0⟩ := case_of Tryd.underlying25 (by kernel_rfl) (by kernel_rfl) (by kernel_rfl) Tryd.underlying5 Tryd.underlying9 Tryd.underlying9 Tryd.underlying9 Tryd.underlying4 Tryd.underlying23 (by kernel_rfl) Tryd.underlying5 Tryd.underlying5 Tryd.underlying9 (hval 0 25 v0 rfl rfl) h0 (fun n hn => of_decide_eq_true (List.all_eq_true.1 hsz n (DataW.weights_mem_each (j := 0) (t := 25) rfl rfl n hn)))
  obtain ⟨z1, rfl, rfl, rfl, w1⟩ := open_int Tryd.underlying5 (hval 1 5 v1 rfl rfl) h1
  have b1 := bounds_u8 w1
  obtain ⟨a1, rfl⟩ := Ech.u8_of (z := z1) (by omega) (by omega)
  clear hA0 hval0 hsz0
  exact (walk a0 a1 W ls0 lv0 ln0 ld0 (of_laid hL)).mono fun e W' ⟨he, hb⟩ => ⟨_, he, Law.law_post (t := 4) laidOut (by kernel_rfl) rfl rfl Tryd.underlying4 ⟨rfl, rfl, rfl⟩ hW' hb⟩

theorem over : Rows.chapChecksRow.holds Tryd.pinned (OpenSpec.ofChange Rows.chapChecksSpec) :=
  OpenClaim.holds_of_wide 5 Tryd.f5 rfl rfl rfl rfl rfl rfl rfl ⟨rfl, rfl, rfl, rfl, rfl⟩ rfl rfl rfl rfl rfl (by kernel_rfl) Tryd.func5 (by kernel_rfl)
    (of_decide_eq_true (by kernel_rfl)) (by unfold Func.isWrapper; first | (rw [if_pos (by decide +kernel)]; kernel_rfl) | (rw [if_neg (by decide +kernel)]; exact ⟨rfl, rfl⟩))
    (fun os started H enc _ => lifted os started H enc)

theorem proved : Rows.ChapChecksCardSaid :=
  Claim7.holds_tied_plain_at .later [] [.data, .data] true _ false
    over (fun _ h => by cases h) (by kernel_rfl) (fun _ h => by cases h) chapChecks_row_tie rfl ⟨rfl, rfl⟩ (by kernel_rfl) rfl
    (fun f fn hf hfn => by
      obtain rfl : f = 5 := Option.some.inj ((show Tryd.prog.funcNamed "halyard/halyardlaw19.ChapChecks" = some 5 by kernel_rfl).symm.trans hf) |>.symm
      obtain rfl : fn = Tryd.f5 := (Option.some.inj (Tryd.func5.symm.trans hfn)).symm
      exact ⟨by kernel_rfl, fun j t ht => by
        rw [Tryd.params5] at ht
        rcases j with _ | j
        · obtain rfl : t = 25 := by simpa using ht.symm
          exact (show Tryd.prog.wantsStandIn 25 = false by kernel_rfl)
        rcases j with _ | j
        · obtain rfl : t = 5 := by simpa using ht.symm
          exact (show Tryd.prog.wantsStandIn 5 = false by kernel_rfl)
        simp at ht⟩)
    (by kernel_rfl)
#print axioms proved
end Go.Proofs.YtipcmkcllibnfaaDoor.ChapChecks
