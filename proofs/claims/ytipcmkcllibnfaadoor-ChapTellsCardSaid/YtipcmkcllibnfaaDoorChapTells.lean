/- PROVED: 'halyard/halyardlaw19.ChapTells' returns true for every case, and leaves it as it was. Its row lists package md5's two tables as they are laid; the card ties that to the program's text. No other condition. -/
import Derived.Test.YtipcmkcllibnfaaDoorChpC
import Derived.Test.YtipcmkcllibnfaaDoorChpD
import Derived.Test.YtipcmkcllibnfaaDoorChpE
import Derived.Test.YtipcmkcllibnfaaDoorChpX
import Derived.Test.YtipcmkcllibnfaaDoorPktEq
import Derived.Test.YtipcmkcllibnfaaDoorPktAt
import Derived.Test.YtipcmkcllibnfaaDoorMd5La
import Derived.Test.YtipcmkcllibnfaaDoorLaw
import Derived.Test.YtipcmkcllibnfaaDoorRows
import Derived.Test.YtipcmkcllibnfaaDoorCards
import Derived.Test.YtipcmkcllibnfaaDoorTie
import Derived.SevenTiedAt
import Derived.ChangeMaps5
import Derived.SizedLaws
import Derived.StillTailTactics
namespace Go.Proofs.YtipcmkcllibnfaaDoor.ChapTells
open Go.ChangeShapes Go.WideShapes Go.ChangeAt Go.RowKit Go.WideElems Go.Proofs.YtipcmkcllibnfaaDoor.Oct Go.Proofs.YtipcmkcllibnfaaDoor.Row Go.Proofs.YtipcmkcllibnfaaDoor.Mem Go.Proofs.YtipcmkcllibnfaaDoor.Chp
open Go.Proofs.YtipcmkcllibnfaaDoor.Md5 (Globs of_laid laid2 door_met own laidOut)
open Go.Proofs.YtipcmkcllibnfaaDoor.Pkt (At at_new At.callee At.alloc beq_self)
open Go.ChangeMaps (open_string shut_string)

set_option maxHeartbeats 8000000 in
set_option maxRecDepth 100000 in
theorem w_short (x : Cas) (w : World) (hs : x.s.size ≤ 4096) (hv : x.v.size ≤ 4096) (hn : x.n.size ≤ 4096) (hd : x.p.d.size ≤ 4096) (hl : lgB x = false) (hG : Globs w) :
    Calls Tryd.prog 3 #[.agg #[.int .u8 x.id.toNat, .string x.s, .string x.v, .string x.n, .bool x.b, .int .u8 x.p.c.toNat, .int .u8 x.p.i.toNat, .string x.p.d]] w fun e w' => e = .returned (.bool true) ∧ Below w.heap.size w w' := by
  have HG := Lib.hid hG; clear hG
  have HH0 := Lib.hid (Below.refl w.heap.size w)
  have HC := Lib.hid (cs_new w x)
  have HH0 := Lib.hid (HH0.out.alloc HH0.out.size _ : Below w.heap.size w (w.alloc (.cells #[.int .u8 x.id.toNat, .string x.s, .string x.v, .string x.n, .bool x.b, .int .u8 x.p.c.toNat, .int .u8 x.p.i.toNat, .string x.p.d] 25)))
  have HG := Lib.hid (HG.out.below HH0.out)
  have KLg := Lib.hid (fun W => long_any x W (by omega) (by omega) (by omega) (by omega))
  rw [hl] at KLg
  have KQ := Lib.hid (fun w => challenge_any x.id x.v x.n w (by unfold maxLen; omega) (by omega))
  have KR := Lib.hid (fun w => rchallenge_any x.id x.v x.n w (by unfold maxLen; omega) (by unfold maxLen; omega))
  have KS := Lib.hid (fun w h => response_any x.id x.s x.v x.n w (by omega) (by omega) (by omega) h)
  have KT := Lib.hid (fun w => rresponse_any x.id x.s x.v x.n w (by omega) (by omega) (by unfold maxLen; omega))
  have KU := Lib.hid (fun w => answer_any x.id x.b x.n w (by omega))
  have KV := Lib.hid (fun w => ranswer_any x.id x.b x.n w (by unfold maxLen; omega))
  have KA := Lib.hid (fun w => read_any x.p.c x.p.i x.p.d w (by unfold maxLen; omega))
  have KB := Lib.hid (fun w => rread_any x.p.c x.p.i x.p.d w (by unfold maxLen; omega))
  have KC := Lib.hid (fun w => answered_any x.p.c x.p.i x.p.d w (by unfold maxLen; omega))
  have KD := Lib.hid (fun w => ranswered_any x.p.c x.p.i x.p.d w (by unfold maxLen; omega))
  have KK := Lib.hid (fun w h => check_any x.p.c x.p.i x.p.d x.id x.s x.v w (by unfold maxLen; omega) (by omega) (by omega) h)
  have KM := Lib.hid (fun w => rcheck_any x.p.c x.p.i x.p.d x.id x.s x.v w (by unfold maxLen; omega) (by omega) (by omega))
  obtain ⟨C1, I1, D1, hp1, -⟩ := pkV_any (chE x.v x.n) 1 x.id (vn x.v x.n)
  obtain ⟨C2, I2, D2, hp2, -⟩ := pkV_any (chE x.v x.n) 2 x.id (vn (dg x.id x.s x.v) x.n)
  obtain ⟨C3, I3, D3, hp3, -⟩ := pkV_any (laE x.n) (if x.b = true then 3 else 4) x.id x.n
  rw [hp1] at KQ KR
  rw [hp2] at KS KT
  rw [hp3] at KU KV
  clear hp1 hp2 hp3
  unfold rdV at KA KB
  unfold anV at KC KD
  generalize chE x.v x.n = E1 at *
  generalize laE x.n = E3 at *
  generalize rdA x.p.c x.p.d = y at *
  generalize rdB x.p.c x.p.d = z at *
  generalize rdE x.p.c x.p.d = E4 at *
  generalize anW x.p.c x.p.d = b5 at *
  generalize anT x.p.c x.p.d = m5 at *
  generalize anE x.p.c x.p.d = E5 at *
  generalize ckB x.p.c x.p.i x.p.d x.id x.s x.v = b6 at *
  have hq0 : ∀ W, (Op.equalIn 10000 23 (.agg #[.int .u8 C1.toNat, .int .u8 I1.toNat, .string D1]) (.agg #[.int .u8 C1.toNat, .int .u8 I1.toNat, .string D1])).run Tryd.prog W = .ok true W := pk_eq (c := C1) (c' := C1) (i := I1) (i' := I1) (s := D1) (s' := D1) (pk_same _ _ _)
  have hq1 : ∀ W, (binOp .eql 23 (.agg #[.int .u8 C1.toNat, .int .u8 I1.toNat, .string D1]) (.agg #[.int .u8 C1.toNat, .int .u8 I1.toNat, .string D1])).run Tryd.prog W = .ok (.bool true) W := pk_eql (c := C1) (c' := C1) (i := I1) (i' := I1) (s := D1) (s' := D1) (pk_same _ _ _)
  have hq2 : ∀ W, (binOp .neq 23 (.agg #[.int .u8 C1.toNat, .int .u8 I1.toNat, .string D1]) (.agg #[.int .u8 C1.toNat, .int .u8 I1.toNat, .string D1])).run Tryd.prog W = .ok (.bool false) W := pk_neq (c := C1) (c' := C1) (i := I1) (i' := I1) (s := D1) (s' := D1) (pk_same _ _ _)
  have hr0 : ∀ W, (Op.equalIn 10000 23 (.agg #[.int .u8 C2.toNat, .int .u8 I2.toNat, .string D2]) (.agg #[.int .u8 C2.toNat, .int .u8 I2.toNat, .string D2])).run Tryd.prog W = .ok true W := pk_eq (c := C2) (c' := C2) (i := I2) (i' := I2) (s := D2) (s' := D2) (pk_same _ _ _)
  have hr1 : ∀ W, (binOp .eql 23 (.agg #[.int .u8 C2.toNat, .int .u8 I2.toNat, .string D2]) (.agg #[.int .u8 C2.toNat, .int .u8 I2.toNat, .string D2])).run Tryd.prog W = .ok (.bool true) W := pk_eql (c := C2) (c' := C2) (i := I2) (i' := I2) (s := D2) (s' := D2) (pk_same _ _ _)
  have hr2 : ∀ W, (binOp .neq 23 (.agg #[.int .u8 C2.toNat, .int .u8 I2.toNat, .string D2]) (.agg #[.int .u8 C2.toNat, .int .u8 I2.toNat, .string D2])).run Tryd.prog W = .ok (.bool false) W := pk_neq (c := C2) (c' := C2) (i := I2) (i' := I2) (s := D2) (s' := D2) (pk_same _ _ _)
  have ht0 : ∀ W, (Op.equalIn 10000 23 (.agg #[.int .u8 C3.toNat, .int .u8 I3.toNat, .string D3]) (.agg #[.int .u8 C3.toNat, .int .u8 I3.toNat, .string D3])).run Tryd.prog W = .ok true W := pk_eq (c := C3) (c' := C3) (i := I3) (i' := I3) (s := D3) (s' := D3) (pk_same _ _ _)
  have ht1 : ∀ W, (binOp .eql 23 (.agg #[.int .u8 C3.toNat, .int .u8 I3.toNat, .string D3]) (.agg #[.int .u8 C3.toNat, .int .u8 I3.toNat, .string D3])).run Tryd.prog W = .ok (.bool true) W := pk_eql (c := C3) (c' := C3) (i := I3) (i' := I3) (s := D3) (s' := D3) (pk_same _ _ _)
  have ht2 : ∀ W, (binOp .neq 23 (.agg #[.int .u8 C3.toNat, .int .u8 I3.toNat, .string D3]) (.agg #[.int .u8 C3.toNat, .int .u8 I3.toNat, .string D3])).run Tryd.prog W = .ok (.bool false) W := pk_neq (c := C3) (c' := C3) (i := I3) (i' := I3) (s := D3) (s' := D3) (pk_same _ _ _)
  have f1 := beq_self y
  have f2 := beq_self z
  have f3 := beq_self m5
  have f4 : (b5 == b5) = true := by simp
  have f5 : (E1 == E1) = true := by simp
  have f6 : (E3 == E3) = true := by simp
  have f7 : (E4 == E4) = true := by simp
  have f8 : (E5 == E5) = true := by simp
  have f9 : (b6 == b6) = true := by simp
  go_enter Tryd.func3, Tryd.ntmps3
  have cC0 := HC.out.c0
  have cC1 := HC.out.c1
  have cC2 := HC.out.c2
  have cC3 := HC.out.c3
  have cC4 := HC.out.c4
  have cC5 := HC.out.c5
  have cC6 := HC.out.c6
  have cC7 := HC.out.c7
  go_wp2_with fail
  refine (KLg.out _).mono ?_
  rintro e w1 ⟨rfl, hb1⟩
  have HC := Lib.hid (HC.out.callee hb1)
  have HG := Lib.hid (HG.out.below hb1)
  have HH1 := Lib.hid (HH0.out.trans (hb1.mono HH0.out.size))
  clear hb1
  have cC0 := HC.out.c0
  have cC1 := HC.out.c1
  have cC2 := HC.out.c2
  have cC3 := HC.out.c3
  have cC4 := HC.out.c4
  have cC5 := HC.out.c5
  have cC6 := HC.out.c6
  have cC7 := HC.out.c7
  go_wp2_with fail
  refine (KQ.out _).mono ?_
  rintro e w2 ⟨rfl, hb2⟩
  have HC := Lib.hid (HC.out.callee hb2)
  have HG := Lib.hid (HG.out.below hb2)
  have HH2 := Lib.hid (HH1.out.trans (hb2.mono HH1.out.size))
  clear hb2
  have HC := Lib.hid (HC.out.alloc _ : CsAt (w2.alloc (.cells #[.int .u8 C1.toNat, .int .u8 I1.toNat, .string D1] 23)) w.heap.size x)
  have HA := Lib.hid (at_new w2 C1 I1 D1 : At (w2.alloc (.cells #[.int .u8 C1.toNat, .int .u8 I1.toNat, .string D1] 23)) w2.heap.size C1 I1 D1)
  have HG := Lib.hid (HG.out.below ((Below.refl w2.heap.size w2).alloc (Nat.le_refl _) _) : Globs (w2.alloc (.cells #[.int .u8 C1.toNat, .int .u8 I1.toNat, .string D1] 23)))
  have HH2 := Lib.hid (HH2.out.alloc HH2.out.size _ : Below w.heap.size w (w2.alloc (.cells #[.int .u8 C1.toNat, .int .u8 I1.toNat, .string D1] 23)))
  have cC0 := HC.out.c0
  have cC1 := HC.out.c1
  have cC2 := HC.out.c2
  have cC3 := HC.out.c3
  have cC4 := HC.out.c4
  have cC5 := HC.out.c5
  have cC6 := HC.out.c6
  have cC7 := HC.out.c7
  go_wp2_with fail
  refine (KR.out _).mono ?_
  rintro e w3 ⟨rfl, hb3⟩
  have HC := Lib.hid (HC.out.callee hb3)
  have HA := Lib.hid (HA.out.callee hb3)
  have HG := Lib.hid (HG.out.below hb3)
  have HH3 := Lib.hid (HH2.out.trans (hb3.mono HH2.out.size))
  clear hb3
  have HC := Lib.hid (HC.out.alloc _ : CsAt (w3.alloc (.cells #[.int .u8 C1.toNat, .int .u8 I1.toNat, .string D1] 23)) w.heap.size x)
  have HA := Lib.hid (HA.out.alloc _ : At (w3.alloc (.cells #[.int .u8 C1.toNat, .int .u8 I1.toNat, .string D1] 23)) w2.heap.size C1 I1 D1)
  have HB := Lib.hid (at_new w3 C1 I1 D1 : At (w3.alloc (.cells #[.int .u8 C1.toNat, .int .u8 I1.toNat, .string D1] 23)) w3.heap.size C1 I1 D1)
  have HG := Lib.hid (HG.out.below ((Below.refl w3.heap.size w3).alloc (Nat.le_refl _) _) : Globs (w3.alloc (.cells #[.int .u8 C1.toNat, .int .u8 I1.toNat, .string D1] 23)))
  have HH3 := Lib.hid (HH3.out.alloc HH3.out.size _ : Below w.heap.size w (w3.alloc (.cells #[.int .u8 C1.toNat, .int .u8 I1.toNat, .string D1] 23)))
  have cC0 := HC.out.c0
  have cC1 := HC.out.c1
  have cC2 := HC.out.c2
  have cC3 := HC.out.c3
  have cC4 := HC.out.c4
  have cC5 := HC.out.c5
  have cC6 := HC.out.c6
  have cC7 := HC.out.c7
  go_wp2_with fail
  refine (KS.out _ HG.out).mono ?_
  rintro e w4 ⟨rfl, hb4⟩
  have HC := Lib.hid (HC.out.callee hb4)
  have HA := Lib.hid (HA.out.callee hb4)
  have HB := Lib.hid (HB.out.callee hb4)
  have HG := Lib.hid (HG.out.below hb4)
  have HH4 := Lib.hid (HH3.out.trans (hb4.mono HH3.out.size))
  clear hb4
  have HC := Lib.hid (HC.out.alloc _ : CsAt (w4.alloc (.cells #[.int .u8 C2.toNat, .int .u8 I2.toNat, .string D2] 23)) w.heap.size x)
  have HA := Lib.hid (HA.out.alloc _ : At (w4.alloc (.cells #[.int .u8 C2.toNat, .int .u8 I2.toNat, .string D2] 23)) w2.heap.size C1 I1 D1)
  have HB := Lib.hid (HB.out.alloc _ : At (w4.alloc (.cells #[.int .u8 C2.toNat, .int .u8 I2.toNat, .string D2] 23)) w3.heap.size C1 I1 D1)
  have HE := Lib.hid (at_new w4 C2 I2 D2 : At (w4.alloc (.cells #[.int .u8 C2.toNat, .int .u8 I2.toNat, .string D2] 23)) w4.heap.size C2 I2 D2)
  have HG := Lib.hid (HG.out.below ((Below.refl w4.heap.size w4).alloc (Nat.le_refl _) _) : Globs (w4.alloc (.cells #[.int .u8 C2.toNat, .int .u8 I2.toNat, .string D2] 23)))
  have HH4 := Lib.hid (HH4.out.alloc HH4.out.size _ : Below w.heap.size w (w4.alloc (.cells #[.int .u8 C2.toNat, .int .u8 I2.toNat, .string D2] 23)))
  have cC0 := HC.out.c0
  have cC1 := HC.out.c1
  have cC2 := HC.out.c2
  have cC3 := HC.out.c3
  have cC4 := HC.out.c4
  have cC5 := HC.out.c5
  have cC6 := HC.out.c6
  have cC7 := HC.out.c7
  go_wp2_with fail
  refine (KT.out _).mono ?_
  rintro e w5 ⟨rfl, hb5⟩
  have HC := Lib.hid (HC.out.callee hb5)
  have HA := Lib.hid (HA.out.callee hb5)
  have HB := Lib.hid (HB.out.callee hb5)
  have HE := Lib.hid (HE.out.callee hb5)
  have HG := Lib.hid (HG.out.below hb5)
  have HH5 := Lib.hid (HH4.out.trans (hb5.mono HH4.out.size))
  clear hb5
  have HC := Lib.hid (HC.out.alloc _ : CsAt (w5.alloc (.cells #[.int .u8 C2.toNat, .int .u8 I2.toNat, .string D2] 23)) w.heap.size x)
  have HA := Lib.hid (HA.out.alloc _ : At (w5.alloc (.cells #[.int .u8 C2.toNat, .int .u8 I2.toNat, .string D2] 23)) w2.heap.size C1 I1 D1)
  have HB := Lib.hid (HB.out.alloc _ : At (w5.alloc (.cells #[.int .u8 C2.toNat, .int .u8 I2.toNat, .string D2] 23)) w3.heap.size C1 I1 D1)
  have HE := Lib.hid (HE.out.alloc _ : At (w5.alloc (.cells #[.int .u8 C2.toNat, .int .u8 I2.toNat, .string D2] 23)) w4.heap.size C2 I2 D2)
  have HF := Lib.hid (at_new w5 C2 I2 D2 : At (w5.alloc (.cells #[.int .u8 C2.toNat, .int .u8 I2.toNat, .string D2] 23)) w5.heap.size C2 I2 D2)
  have HG := Lib.hid (HG.out.below ((Below.refl w5.heap.size w5).alloc (Nat.le_refl _) _) : Globs (w5.alloc (.cells #[.int .u8 C2.toNat, .int .u8 I2.toNat, .string D2] 23)))
  have HH5 := Lib.hid (HH5.out.alloc HH5.out.size _ : Below w.heap.size w (w5.alloc (.cells #[.int .u8 C2.toNat, .int .u8 I2.toNat, .string D2] 23)))
  have cC0 := HC.out.c0
  have cC1 := HC.out.c1
  have cC2 := HC.out.c2
  have cC3 := HC.out.c3
  have cC4 := HC.out.c4
  have cC5 := HC.out.c5
  have cC6 := HC.out.c6
  have cC7 := HC.out.c7
  go_wp2_with fail
  refine (KU.out _).mono ?_
  rintro e w6 ⟨rfl, hb6⟩
  have HC := Lib.hid (HC.out.callee hb6)
  have HA := Lib.hid (HA.out.callee hb6)
  have HB := Lib.hid (HB.out.callee hb6)
  have HE := Lib.hid (HE.out.callee hb6)
  have HF := Lib.hid (HF.out.callee hb6)
  have HG := Lib.hid (HG.out.below hb6)
  have HH6 := Lib.hid (HH5.out.trans (hb6.mono HH5.out.size))
  clear hb6
  have HC := Lib.hid (HC.out.alloc _ : CsAt (w6.alloc (.cells #[.int .u8 C3.toNat, .int .u8 I3.toNat, .string D3] 23)) w.heap.size x)
  have HA := Lib.hid (HA.out.alloc _ : At (w6.alloc (.cells #[.int .u8 C3.toNat, .int .u8 I3.toNat, .string D3] 23)) w2.heap.size C1 I1 D1)
  have HB := Lib.hid (HB.out.alloc _ : At (w6.alloc (.cells #[.int .u8 C3.toNat, .int .u8 I3.toNat, .string D3] 23)) w3.heap.size C1 I1 D1)
  have HE := Lib.hid (HE.out.alloc _ : At (w6.alloc (.cells #[.int .u8 C3.toNat, .int .u8 I3.toNat, .string D3] 23)) w4.heap.size C2 I2 D2)
  have HF := Lib.hid (HF.out.alloc _ : At (w6.alloc (.cells #[.int .u8 C3.toNat, .int .u8 I3.toNat, .string D3] 23)) w5.heap.size C2 I2 D2)
  have HJ := Lib.hid (at_new w6 C3 I3 D3 : At (w6.alloc (.cells #[.int .u8 C3.toNat, .int .u8 I3.toNat, .string D3] 23)) w6.heap.size C3 I3 D3)
  have HG := Lib.hid (HG.out.below ((Below.refl w6.heap.size w6).alloc (Nat.le_refl _) _) : Globs (w6.alloc (.cells #[.int .u8 C3.toNat, .int .u8 I3.toNat, .string D3] 23)))
  have HH6 := Lib.hid (HH6.out.alloc HH6.out.size _ : Below w.heap.size w (w6.alloc (.cells #[.int .u8 C3.toNat, .int .u8 I3.toNat, .string D3] 23)))
  have cC0 := HC.out.c0
  have cC1 := HC.out.c1
  have cC2 := HC.out.c2
  have cC3 := HC.out.c3
  have cC4 := HC.out.c4
  have cC5 := HC.out.c5
  have cC6 := HC.out.c6
  have cC7 := HC.out.c7
  go_wp2_with fail
  refine (KV.out _).mono ?_
  rintro e w7 ⟨rfl, hb7⟩
  have HC := Lib.hid (HC.out.callee hb7)
  have HA := Lib.hid (HA.out.callee hb7)
  have HB := Lib.hid (HB.out.callee hb7)
  have HE := Lib.hid (HE.out.callee hb7)
  have HF := Lib.hid (HF.out.callee hb7)
  have HJ := Lib.hid (HJ.out.callee hb7)
  have HG := Lib.hid (HG.out.below hb7)
  have HH7 := Lib.hid (HH6.out.trans (hb7.mono HH6.out.size))
  clear hb7
  have HC := Lib.hid (HC.out.alloc _ : CsAt (w7.alloc (.cells #[.int .u8 C3.toNat, .int .u8 I3.toNat, .string D3] 23)) w.heap.size x)
  have HA := Lib.hid (HA.out.alloc _ : At (w7.alloc (.cells #[.int .u8 C3.toNat, .int .u8 I3.toNat, .string D3] 23)) w2.heap.size C1 I1 D1)
  have HB := Lib.hid (HB.out.alloc _ : At (w7.alloc (.cells #[.int .u8 C3.toNat, .int .u8 I3.toNat, .string D3] 23)) w3.heap.size C1 I1 D1)
  have HE := Lib.hid (HE.out.alloc _ : At (w7.alloc (.cells #[.int .u8 C3.toNat, .int .u8 I3.toNat, .string D3] 23)) w4.heap.size C2 I2 D2)
  have HF := Lib.hid (HF.out.alloc _ : At (w7.alloc (.cells #[.int .u8 C3.toNat, .int .u8 I3.toNat, .string D3] 23)) w5.heap.size C2 I2 D2)
  have HJ := Lib.hid (HJ.out.alloc _ : At (w7.alloc (.cells #[.int .u8 C3.toNat, .int .u8 I3.toNat, .string D3] 23)) w6.heap.size C3 I3 D3)
  have HL := Lib.hid (at_new w7 C3 I3 D3 : At (w7.alloc (.cells #[.int .u8 C3.toNat, .int .u8 I3.toNat, .string D3] 23)) w7.heap.size C3 I3 D3)
  have HG := Lib.hid (HG.out.below ((Below.refl w7.heap.size w7).alloc (Nat.le_refl _) _) : Globs (w7.alloc (.cells #[.int .u8 C3.toNat, .int .u8 I3.toNat, .string D3] 23)))
  have HH7 := Lib.hid (HH7.out.alloc HH7.out.size _ : Below w.heap.size w (w7.alloc (.cells #[.int .u8 C3.toNat, .int .u8 I3.toNat, .string D3] 23)))
  have cC0 := HC.out.c0
  have cC1 := HC.out.c1
  have cC2 := HC.out.c2
  have cC3 := HC.out.c3
  have cC4 := HC.out.c4
  have cC5 := HC.out.c5
  have cC6 := HC.out.c6
  have cC7 := HC.out.c7
  have cA0 := HA.out.c0
  have cA1 := HA.out.c1
  have cA2 := HA.out.c2
  have cB0 := HB.out.c0
  have cB1 := HB.out.c1
  have cB2 := HB.out.c2
  have cE0 := HE.out.c0
  have cE1 := HE.out.c1
  have cE2 := HE.out.c2
  have cF0 := HF.out.c0
  have cF1 := HF.out.c1
  have cF2 := HF.out.c2
  have cJ0 := HJ.out.c0
  have cJ1 := HJ.out.c1
  have cJ2 := HJ.out.c2
  have cL0 := HL.out.c0
  have cL1 := HL.out.c1
  have cL2 := HL.out.c2
  go_wp2_with fail
  refine (KA.out _).mono ?_
  rintro e w8 ⟨rfl, hb8⟩
  clear HA
  clear HB
  clear HE
  clear HF
  clear HJ
  clear HL
  have HC := Lib.hid (HC.out.callee hb8)
  have HG := Lib.hid (HG.out.below hb8)
  have HH8 := Lib.hid (HH7.out.trans (hb8.mono HH7.out.size))
  clear hb8
  have cC0 := HC.out.c0
  have cC1 := HC.out.c1
  have cC2 := HC.out.c2
  have cC3 := HC.out.c3
  have cC4 := HC.out.c4
  have cC5 := HC.out.c5
  have cC6 := HC.out.c6
  have cC7 := HC.out.c7
  go_wp2_with fail
  refine (KB.out _).mono ?_
  rintro e w9 ⟨rfl, hb9⟩
  have HC := Lib.hid (HC.out.callee hb9)
  have HG := Lib.hid (HG.out.below hb9)
  have HH9 := Lib.hid (HH8.out.trans (hb9.mono HH8.out.size))
  clear hb9
  have cC0 := HC.out.c0
  have cC1 := HC.out.c1
  have cC2 := HC.out.c2
  have cC3 := HC.out.c3
  have cC4 := HC.out.c4
  have cC5 := HC.out.c5
  have cC6 := HC.out.c6
  have cC7 := HC.out.c7
  go_wp2_with fail
  refine (KC.out _).mono ?_
  rintro e w10 ⟨rfl, hb10⟩
  have HC := Lib.hid (HC.out.callee hb10)
  have HG := Lib.hid (HG.out.below hb10)
  have HH10 := Lib.hid (HH9.out.trans (hb10.mono HH9.out.size))
  clear hb10
  have cC0 := HC.out.c0
  have cC1 := HC.out.c1
  have cC2 := HC.out.c2
  have cC3 := HC.out.c3
  have cC4 := HC.out.c4
  have cC5 := HC.out.c5
  have cC6 := HC.out.c6
  have cC7 := HC.out.c7
  go_wp2_with fail
  refine (KD.out _).mono ?_
  rintro e w11 ⟨rfl, hb11⟩
  have HC := Lib.hid (HC.out.callee hb11)
  have HG := Lib.hid (HG.out.below hb11)
  have HH11 := Lib.hid (HH10.out.trans (hb11.mono HH10.out.size))
  clear hb11
  have cC0 := HC.out.c0
  have cC1 := HC.out.c1
  have cC2 := HC.out.c2
  have cC3 := HC.out.c3
  have cC4 := HC.out.c4
  have cC5 := HC.out.c5
  have cC6 := HC.out.c6
  have cC7 := HC.out.c7
  go_wp2_with fail
  replace cC0 : w11.drew.cell? ⟨w.heap.size, 0, none⟩ = some (Value.int .u8 x.id.toNat) := cC0
  replace cC1 : w11.drew.cell? ⟨w.heap.size, 1, none⟩ = some (Value.string x.s) := cC1
  replace cC2 : w11.drew.cell? ⟨w.heap.size, 2, none⟩ = some (Value.string x.v) := cC2
  replace cC3 : w11.drew.cell? ⟨w.heap.size, 3, none⟩ = some (Value.string x.n) := cC3
  replace cC4 : w11.drew.cell? ⟨w.heap.size, 4, none⟩ = some (Value.bool x.b) := cC4
  replace cC5 : w11.drew.cell? ⟨w.heap.size, 5, none⟩ = some (Value.int .u8 x.p.c.toNat) := cC5
  replace cC6 : w11.drew.cell? ⟨w.heap.size, 6, none⟩ = some (Value.int .u8 x.p.i.toNat) := cC6
  replace cC7 : w11.drew.cell? ⟨w.heap.size, 7, none⟩ = some (Value.string x.p.d) := cC7
  have HCd : Hid (CsAt w11.drew w.heap.size x) := HC.out
  have HGd : Hid (Globs w11.drew) := HG.out.below (Below.refl _ w11).drew
  have HHd : Hid (Below w.heap.size w w11.drew) := HH11.out.drew
  clear HC HG HH11
  have HC := HCd
  have HG := HGd
  have HHz := HHd
  clear HCd HGd HHd
  go_region_held3 (fun w' => w'.cell? ⟨w.heap.size, 0, none⟩ = some (Value.int .u8 x.id.toNat) ∧ w'.cell? ⟨w.heap.size, 1, none⟩ = some (Value.string x.s) ∧ w'.cell? ⟨w.heap.size, 2, none⟩ = some (Value.string x.v) ∧ w'.cell? ⟨w.heap.size, 3, none⟩ = some (Value.string x.n) ∧ w'.cell? ⟨w.heap.size, 4, none⟩ = some (Value.bool x.b) ∧ w'.cell? ⟨w.heap.size, 5, none⟩ = some (Value.int .u8 x.p.c.toNat) ∧ w'.cell? ⟨w.heap.size, 6, none⟩ = some (Value.int .u8 x.p.i.toNat) ∧ w'.cell? ⟨w.heap.size, 7, none⟩ = some (Value.string x.p.d))
    (first | (with_reducible assumption) | (refine ⟨?_, ?_, ?_, ?_, ?_, ?_, ?_, ?_⟩ <;> with_reducible assumption) | (go_split_ands; refine ⟨?_, ?_, ?_, ?_, ?_, ?_, ?_, ?_⟩ <;> with_reducible assumption))
    (first
      | (go_at_call 18; (refine (KK.out _ HG.out).mono ?_; rintro e w99 ⟨rfl, hb99⟩; replace cC0 := (hb99.cell (p := ⟨w.heap.size, 0, none⟩) (World.block_lt_of_cell? _ _ cC0)).trans cC0; replace cC1 := (hb99.cell (p := ⟨w.heap.size, 1, none⟩) (World.block_lt_of_cell? _ _ cC1)).trans cC1; replace cC2 := (hb99.cell (p := ⟨w.heap.size, 2, none⟩) (World.block_lt_of_cell? _ _ cC2)).trans cC2; replace cC3 := (hb99.cell (p := ⟨w.heap.size, 3, none⟩) (World.block_lt_of_cell? _ _ cC3)).trans cC3; replace cC4 := (hb99.cell (p := ⟨w.heap.size, 4, none⟩) (World.block_lt_of_cell? _ _ cC4)).trans cC4; replace cC5 := (hb99.cell (p := ⟨w.heap.size, 5, none⟩) (World.block_lt_of_cell? _ _ cC5)).trans cC5; replace cC6 := (hb99.cell (p := ⟨w.heap.size, 6, none⟩) (World.block_lt_of_cell? _ _ cC6)).trans cC6; replace cC7 := (hb99.cell (p := ⟨w.heap.size, 7, none⟩) (World.block_lt_of_cell? _ _ cC7)).trans cC7; replace HC := Lib.hid (HC.out.callee hb99); replace HG := Lib.hid (HG.out.below hb99); replace HHz := Lib.hid (HHz.out.trans (hb99.mono HHz.out.size)); clear hb99))
      | (go_at_call 19; (refine (KM.out _).mono ?_; rintro e w99 ⟨rfl, hb99⟩; replace cC0 := (hb99.cell (p := ⟨w.heap.size, 0, none⟩) (World.block_lt_of_cell? _ _ cC0)).trans cC0; replace cC1 := (hb99.cell (p := ⟨w.heap.size, 1, none⟩) (World.block_lt_of_cell? _ _ cC1)).trans cC1; replace cC2 := (hb99.cell (p := ⟨w.heap.size, 2, none⟩) (World.block_lt_of_cell? _ _ cC2)).trans cC2; replace cC3 := (hb99.cell (p := ⟨w.heap.size, 3, none⟩) (World.block_lt_of_cell? _ _ cC3)).trans cC3; replace cC4 := (hb99.cell (p := ⟨w.heap.size, 4, none⟩) (World.block_lt_of_cell? _ _ cC4)).trans cC4; replace cC5 := (hb99.cell (p := ⟨w.heap.size, 5, none⟩) (World.block_lt_of_cell? _ _ cC5)).trans cC5; replace cC6 := (hb99.cell (p := ⟨w.heap.size, 6, none⟩) (World.block_lt_of_cell? _ _ cC6)).trans cC6; replace cC7 := (hb99.cell (p := ⟨w.heap.size, 7, none⟩) (World.block_lt_of_cell? _ _ cC7)).trans cC7; replace HC := Lib.hid (HC.out.callee hb99); replace HG := Lib.hid (HG.out.below hb99); replace HHz := Lib.hid (HHz.out.trans (hb99.mono HHz.out.size)); clear hb99))
      | (go_at_call 7; (refine (alive_any _ HG.out).mono ?_; rintro e w99 ⟨rfl, hb99⟩; replace cC0 := (hb99.cell (p := ⟨w.heap.size, 0, none⟩) (World.block_lt_of_cell? _ _ cC0)).trans cC0; replace cC1 := (hb99.cell (p := ⟨w.heap.size, 1, none⟩) (World.block_lt_of_cell? _ _ cC1)).trans cC1; replace cC2 := (hb99.cell (p := ⟨w.heap.size, 2, none⟩) (World.block_lt_of_cell? _ _ cC2)).trans cC2; replace cC3 := (hb99.cell (p := ⟨w.heap.size, 3, none⟩) (World.block_lt_of_cell? _ _ cC3)).trans cC3; replace cC4 := (hb99.cell (p := ⟨w.heap.size, 4, none⟩) (World.block_lt_of_cell? _ _ cC4)).trans cC4; replace cC5 := (hb99.cell (p := ⟨w.heap.size, 5, none⟩) (World.block_lt_of_cell? _ _ cC5)).trans cC5; replace cC6 := (hb99.cell (p := ⟨w.heap.size, 6, none⟩) (World.block_lt_of_cell? _ _ cC6)).trans cC6; replace cC7 := (hb99.cell (p := ⟨w.heap.size, 7, none⟩) (World.block_lt_of_cell? _ _ cC7)).trans cC7; replace HC := Lib.hid (HC.out.callee hb99); replace HG := Lib.hid (HG.out.below hb99); replace HHz := Lib.hid (HHz.out.trans (hb99.mono HHz.out.size)); clear hb99))
      | fail)
  all_goals (go_wp2; go_ret; exact ⟨rfl, HHz.out⟩)
theorem small {x : Cas} (h : lgB x = false) : x.s.size ≤ 4096 ∧ x.v.size ≤ 4096 ∧ x.n.size ≤ 4096 ∧ x.p.d.size ≤ 4096 := by
  have := of_decide_eq_false h
  omega
set_option maxHeartbeats 8000000 in
set_option maxRecDepth 100000 in
theorem walk (x : Cas) (w : World) (hs : x.s.size ≤ 140737488351232) (hv : x.v.size ≤ 140737488351232) (hn : x.n.size ≤ 140737488351232) (hd : x.p.d.size ≤ 140737488351232) (hG : Globs w) :
    Calls Tryd.prog 3 #[.agg #[.int .u8 x.id.toNat, .string x.s, .string x.v, .string x.n, .bool x.b, .int .u8 x.p.c.toNat, .int .u8 x.p.i.toNat, .string x.p.d]] w fun e w' => e = .returned (.bool true) ∧ Below w.heap.size w w' := by
  by_cases hl : lgB x = true
  · have HG := Lib.hid hG; clear hG
    have HH0 := Lib.hid (Below.refl w.heap.size w)
    have HC := Lib.hid (cs_new w x)
    have HH0 := Lib.hid (HH0.out.alloc HH0.out.size _ : Below w.heap.size w (w.alloc (.cells #[.int .u8 x.id.toNat, .string x.s, .string x.v, .string x.n, .bool x.b, .int .u8 x.p.c.toNat, .int .u8 x.p.i.toNat, .string x.p.d] 25)))
    have HG := Lib.hid (HG.out.below HH0.out)
    have KLg := Lib.hid (fun W => long_any x W hs hv hn hd)
    rw [hl] at KLg
    go_enter Tryd.func3, Tryd.ntmps3
    have cC0 := HC.out.c0
    have cC1 := HC.out.c1
    have cC2 := HC.out.c2
    have cC3 := HC.out.c3
    have cC4 := HC.out.c4
    have cC5 := HC.out.c5
    have cC6 := HC.out.c6
    have cC7 := HC.out.c7
    go_wp2_with fail
    refine (KLg.out _).mono ?_
    rintro e w1 ⟨rfl, hb1⟩
    have HC := Lib.hid (HC.out.callee hb1)
    have HG := Lib.hid (HG.out.below hb1)
    have HH1 := Lib.hid (HH0.out.trans (hb1.mono HH0.out.size))
    clear hb1
    go_wp2_with fail
    refine (alive_any _ HG.out).mono ?_
    rintro e w2 ⟨rfl, hb2⟩
    have HC := Lib.hid (HC.out.callee hb2)
    have HG := Lib.hid (HG.out.below hb2)
    have HH2 := Lib.hid (HH1.out.trans (hb2.mono HH1.out.size))
    clear hb2
    go_wp2
    go_ret
    exact ⟨rfl, HH2.out⟩
  · have hl : lgB x = false := by simpa using hl
    have h := small hl
    exact w_short x w h.1 h.2.1 h.2.2.1 h.2.2.2 hl hG

set_option maxRecDepth 100000 in
theorem lifted (os : Os) (started : os.Started) (H : Type) (enc : TypeId × Value → H) :
    ReturnsInHanded {} Tryd.checked os 3 .any (fun w args => (Rows.chapTellsSpec.pre enc Tryd.prog Tryd.f3 [] false w args ∧ laidMetH Tryd.prog laid2 w) ∧ sizedMet enc Tryd.prog Tryd.f3 (OpenSpec.ofChange Rows.chapTellsSpec) false w args)
      (Rows.chapTellsSpec.post enc Tryd.prog Tryd.f3 false true false false) := by
  refine returnsInHanded_of_change_and (C := Tryd.checked) (X := fun w _ => laidMetH Tryd.prog laid2 w) (fun _ _ _ hh h => h.of_heap hh) own started (by kernel_rfl) Tryd.func3
    (ChangeSpec.witness_shaped (enc := enc) (C := Tryd.checked) (os := os) (X := fun w _ => laidMetH Tryd.prog laid2 w) false (World.doorLaid Tryd.prog 400 os) #[.agg #[.int .u8 0, .string ByteArray.empty, .string ByteArray.empty, .string ByteArray.empty, .bool false, .int .u8 0, .int .u8 0, .string ByteArray.empty]] 8 rfl (World.shaped_of_RefB (by kernel_rfl) (by kernel_rfl)) (by kernel_rfl) (by kernel_rfl) (by kernel_rfl) (door_met os _)) ?_
  intro W base args ds gs before hval0 hW _ hsz0 hL _
  have hsz : (DataW.weightsEach Tryd.prog (Tryd.f3.params.toList ++ Rows.chapTellsSpec.plain.varTypes Tryd.prog) (ds ++ gs)).all (· ≤ reachBytes) = true := hsz0
  have hval : ∀ (j : Nat) t v, Tryd.f3.params[j]? = some t → args[j]? = some v → Value.okWide Tryd.prog W .any base t v := hval0
  have hW' := hW
  obtain ⟨p, q, hA0, hV, rfl, hfz, hnd⟩ := hW
  have hlt := hW'.lt
  have hA : DataW.TrodAll enc Tryd.prog W 0 (fun _ => true) true Tryd.f3.params.toList args.toList ds p := hA0
  rw [Tryd.params3] at hA hval hsz
  obtain ⟨v0, vs0, d0, ds0, p0, q0, hargs, rfl, rfl, h0, r0⟩ := trodAll_cons hA
  obtain ⟨rfl, rfl, rfl⟩ := trodAll_nil r0
  obtain rfl : args = #[v0] := by cases args; simp_all
  obtain ⟨rfl, rfl⟩ := trodVars_none hV
  obtain ⟨a0, rfl, ls0, lv0, ln0, ld0⟩ := case_of Tryd.underlying25 (by kernel_rfl) (by kernel_rfl) (by kernel_rfl) Tryd.underlying5 Tryd.underlying9 Tryd.underlying9 Tryd.underlying9 Tryd.underlying4 Tryd.underlying23 (by kernel_rfl) Tryd.underlying5 Tryd.underlying5 Tryd.underlying9 (hval 0 25 v0 rfl rfl) h0 (fun n hn => of_decide_eq_true (List.all_eq_true.1 hsz n (DataW.weights_mem_each (j := 0) (t := 25) rfl rfl n hn)))
  clear hA0 hval0 hsz0
  exact (walk a0 W ls0 lv0 ln0 ld0 (of_laid hL)).mono fun e W' ⟨he, hb⟩ => ⟨_, he, Law.law_post (t := 4) laidOut (by kernel_rfl) rfl rfl Tryd.underlying4 ⟨rfl, rfl, rfl⟩ hW' hb⟩

theorem over : Rows.chapTellsRow.holds Tryd.pinned (OpenSpec.ofChange Rows.chapTellsSpec) :=
  OpenClaim.holds_of_wide 3 Tryd.f3 rfl rfl rfl rfl rfl rfl rfl ⟨rfl, rfl, rfl, rfl, rfl⟩ rfl rfl rfl rfl rfl (by kernel_rfl) Tryd.func3 (by kernel_rfl)
    (of_decide_eq_true (by kernel_rfl)) (by unfold Func.isWrapper; first | (rw [if_pos (by decide +kernel)]; kernel_rfl) | (rw [if_neg (by decide +kernel)]; exact ⟨rfl, rfl⟩))
    (fun os started H enc _ => lifted os started H enc)

theorem proved : Rows.ChapTellsCardSaid :=
  Claim7.holds_tied_plain_at .later [] [.data, .data] true _ false
    over (fun _ h => by cases h) (by kernel_rfl) (fun _ h => by cases h) chapTells_row_tie rfl ⟨rfl, rfl⟩ (by kernel_rfl) rfl
    (fun f fn hf hfn => by
      obtain rfl : f = 3 := Option.some.inj ((show Tryd.prog.funcNamed "halyard/halyardlaw19.ChapTells" = some 3 by kernel_rfl).symm.trans hf) |>.symm
      obtain rfl : fn = Tryd.f3 := (Option.some.inj (Tryd.func3.symm.trans hfn)).symm
      exact ⟨by kernel_rfl, fun j t ht => by
        rw [Tryd.params3] at ht
        rcases j with _ | j
        · obtain rfl : t = 25 := by simpa using ht.symm
          exact (show Tryd.prog.wantsStandIn 25 = false by kernel_rfl)
        simp at ht⟩)
    (by kernel_rfl)
#print axioms proved
end Go.Proofs.YtipcmkcllibnfaaDoor.ChapTells
