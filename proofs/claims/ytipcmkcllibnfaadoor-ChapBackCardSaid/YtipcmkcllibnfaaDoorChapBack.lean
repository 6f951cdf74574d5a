/- PROVED: 'halyard/halyardlaw19.ChapBack' returns true for every case, and leaves it as it was. Its row lists package md5's two tables as they are laid; the card ties that to the program's text. No other condition. -/
import Derived.Test.YtipcmkcllibnfaaDoorChpC
import Derived.Test.YtipcmkcllibnfaaDoorChpD
import Derived.Test.YtipcmkcllibnfaaDoorChpE
import Derived.Test.YtipcmkcllibnfaaDoorChpX
import Derived.Test.YtipcmkcllibnfaaDoorPktEq
import Derived.Test.YtipcmkcllibnfaaDoorPktAt
import Derived.Test.YtipcmkcllibnfaaDoorMd5La
import Derived.Test.YtipcmkcllibnfaaDoorLaw
import Derived.Test.YtipcmkcllibnfaaDoorRows
import Derived.Test.YtipcmkcllibnfaaDoorCards
import Derived.Test.YtipcmkcllibnfaaDoorTie
import Derived.SevenTiedAt
import Derived.ChangeMaps5
import Derived.SizedLaws
import Derived.StillTailTactics
namespace Go.Proofs.YtipcmkcllibnfaaDoor.ChapBack
open Go.ChangeShapes Go.WideShapes Go.ChangeAt Go.RowKit Go.WideElems Go.Proofs.YtipcmkcllibnfaaDoor.Oct Go.Proofs.YtipcmkcllibnfaaDoor.Row Go.Proofs.YtipcmkcllibnfaaDoor.Mem Go.Proofs.YtipcmkcllibnfaaDoor.Chp
open Go.Proofs.YtipcmkcllibnfaaDoor.Md5 (Globs of_laid laid2 door_met own laidOut)
open Go.Proofs.YtipcmkcllibnfaaDoor.Pkt (At at_new At.callee At.alloc beq_self)
open Go.ChangeMaps (open_string shut_string)

theorem cc_three (b : Bool) : decide ((if b = true then (3 : UInt8) else 4) = 3) = b := by cases b <;> rfl
theorem cc_an {b : Bool} {n : ByteArray} (h : laE n = 0) : anE (if b = true then (3 : UInt8) else 4) n = 0 := by
  have hn : ¬ 255 < n.size := fun e => by rw [laE, if_pos e] at h; cases h
  exact an_ok (by cases b <;> simp) hn
theorem la_of {v n : ByteArray} (h : chE v n = 0) : laE n = 0 := by
  have h1 : ¬ (v.size < 1 ∨ 255 < v.size) := fun e => by rw [chE_arg e] at h; cases h
  rw [chE_la h1] at h; exact h
theorem put_rdV {v n : ByteArray} (h : chE v n = 0) : rdV 1 (vn v n) = .tuple #[.string v, .string n, .int .i64 0] := by
  have h1 := chE_zero h
  have h2 := put_read (c := 1) (.inl rfl) h1.1 h1.2.1 h1.2.2
  rw [rdV, h2.1, h2.2.1, h2.2.2]
theorem emp : (bOf []).toList.isEmpty = true := by rw [toList_bOf]; rfl
set_option maxHeartbeats 8000000 in
set_option maxRecDepth 100000 in
theorem w2_chal (x : Cas) (w : World) (hs : x.s.size ≤ 4096) (hv : x.v.size ≤ 4096) (hn : x.n.size ≤ 4096) (hd : x.p.d.size ≤ 4096) (hl : lgB x = false) (hG : Globs w) (h1 : chE x.v x.n = 0) (h3 : rdE x.p.c x.p.d = 0) (h5 : x.p.c = 1) :
    Calls Tryd.prog 4 #[.agg #[.int .u8 x.id.toNat, .string x.s, .string x.v, .string x.n, .bool x.b, .int .u8 x.p.c.toNat, .int .u8 x.p.i.toNat, .string x.p.d]] w fun e w' => e = .returned (.bool true) ∧ Below w.heap.size w w' := by
  have HG := Lib.hid hG; clear hG
  have HH0 := Lib.hid (Below.refl w.heap.size w)
  have HC := Lib.hid (cs_new w x)
  have HH0 := Lib.hid (HH0.out.alloc HH0.out.size _ : Below w.heap.size w (w.alloc (.cells #[.int .u8 x.id.toNat, .string x.s, .string x.v, .string x.n, .bool x.b, .int .u8 x.p.c.toNat, .int .u8 x.p.i.toNat, .string x.p.d] 25)))
  have HG := Lib.hid (HG.out.below HH0.out)
  have KLg := Lib.hid (fun W => long_any x W (by omega) (by omega) (by omega) (by omega))
  rw [hl] at KLg
  have KQ := Lib.hid (fun w => challenge_any x.id x.v x.n w (by unfold maxLen; omega) (by omega))
  have KU := Lib.hid (fun w => answer_any x.id x.b x.n w (by omega))
  have h2 := la_of h1
  have hz1 : (vn x.v x.n).size ≤ 10000 := by rw [vn_size]; omega
  have KA := Lib.hid (fun w => read_any 1 x.id (vn x.v x.n) w (by unfold maxLen; omega))
  rw [put_rdV h1] at KA
  rw [pkV_ok h1] at KQ
  generalize vn x.v x.n = D1 at *
  clear hz1
  have KN := Lib.hid (fun w => answered_any (if x.b = true then 3 else 4) x.id x.n w (by unfold maxLen; omega))
  rw [anV_ok (cc_an h2), cc_three] at KN
  rw [pkV_ok h2] at KU
  generalize (if x.b = true then (3 : UInt8) else 4) = cc at *
  have KR := Lib.hid (fun w => read_any x.p.c x.p.i x.p.d w (by unfold maxLen; omega))
  have KT := Lib.hid (fun w => answered_any x.p.c x.p.i x.p.d w (by unfold maxLen; omega))
  obtain ⟨hcc, hch, hvn, hs1, hs2, hs3⟩ := read_put h3
  have h4 : anE x.p.c x.p.d = 8 := an_type _ (fun e => by rcases hcc with e1 | e1 <;> rw [e1] at e <;> revert e <;> decide)
  rw [anV_bad h4 (by decide)] at KT
  unfold rdV at KR
  rw [h3] at KR
  have KP := Lib.hid (fun w => challenge_any x.p.i (rdA x.p.c x.p.d) (rdB x.p.c x.p.d) w (by unfold maxLen; omega) (by omega))
  rw [show pkV (chE (rdA x.p.c x.p.d) (rdB x.p.c x.p.d)) 1 x.p.i (vn (rdA x.p.c x.p.d) (rdB x.p.c x.p.d)) = .tuple #[.agg #[.int .u8 x.p.c.toNat, .int .u8 x.p.i.toNat, .string x.p.d], .int .i64 0] from by rw [pkV_ok hch, hvn, show (1 : UInt8) = x.p.c from h5.symm]] at KP
  have hc1 : ((x.p.c.toNat : Int) == 1) = true := by rw [h5]; rfl
  have hq0 : ∀ W, (Op.equalIn 10000 23 (.agg #[.int .u8 x.p.c.toNat, .int .u8 x.p.i.toNat, .string x.p.d]) (.agg #[.int .u8 x.p.c.toNat, .int .u8 x.p.i.toNat, .string x.p.d])).run Tryd.prog W = .ok true W := pk_eq (c := x.p.c) (c' := x.p.c) (i := x.p.i) (i' := x.p.i) (s := x.p.d) (s' := x.p.d) (pk_same _ _ _)
  have hq1 : ∀ W, (binOp .eql 23 (.agg #[.int .u8 x.p.c.toNat, .int .u8 x.p.i.toNat, .string x.p.d]) (.agg #[.int .u8 x.p.c.toNat, .int .u8 x.p.i.toNat, .string x.p.d])).run Tryd.prog W = .ok (.bool true) W := pk_eql (c := x.p.c) (c' := x.p.c) (i := x.p.i) (i' := x.p.i) (s := x.p.d) (s' := x.p.d) (pk_same _ _ _)
  have hq2 : ∀ W, (binOp .neq 23 (.agg #[.int .u8 x.p.c.toNat, .int .u8 x.p.i.toNat, .string x.p.d]) (.agg #[.int .u8 x.p.c.toNat, .int .u8 x.p.i.toNat, .string x.p.d])).run Tryd.prog W = .ok (.bool false) W := pk_neq (c := x.p.c) (c' := x.p.c) (i := x.p.i) (i' := x.p.i) (s := x.p.d) (s' := x.p.d) (pk_same _ _ _)
  generalize rdA x.p.c x.p.d = y at *
  generalize rdB x.p.c x.p.d = z at *
  clear hch hvn hs1 hs2 hs3
  have f1 := beq_self x.v
  have f2 := beq_self x.n
  have f3 : ((x.id.toNat : Int) == x.id.toNat) = true := by simp
  have f4 : (x.b == x.b) = true := by simp
  have f5 := emp
  clear h1 h2
  clear h3 h4 h5 hcc
  go_enter Tryd.func4, Tryd.ntmps4
  have cC0 := HC.out.c0
  have cC1 := HC.out.c1
  have cC2 := HC.out.c2
  have cC3 := HC.out.c3
  have cC4 := HC.out.c4
  have cC5 := HC.out.c5
  have cC6 := HC.out.c6
  have cC7 := HC.out.c7
  go_wp2_with fail
  refine (KLg.out _).mono ?_
  rintro e w1 ⟨rfl, hb1⟩
  have HC := Lib.hid (HC.out.callee hb1)
  have HG := Lib.hid (HG.out.below hb1)
  have HH1 := Lib.hid (HH0.out.trans (hb1.mono HH0.out.size))
  clear hb1
  have cC0 := HC.out.c0
  have cC1 := HC.out.c1
  have cC2 := HC.out.c2
  have cC3 := HC.out.c3
  have cC4 := HC.out.c4
  have cC5 := HC.out.c5
  have cC6 := HC.out.c6
  have cC7 := HC.out.c7
  go_wp2_with fail
  refine (KQ.out _).mono ?_
  rintro e w2 ⟨rfl, hb2⟩
  have HC := Lib.hid (HC.out.callee hb2)
  have HG := Lib.hid (HG.out.below hb2)
  have HH2 := Lib.hid (HH1.out.trans (hb2.mono HH1.out.size))
  clear hb2
  have HC := Lib.hid (HC.out.alloc _ : CsAt (w2.alloc (.cells #[.int .u8 1, .int .u8 x.id.toNat, .string D1] 23)) w.heap.size x)
  have HA := Lib.hid (at_new w2 (1 : UInt8) x.id D1 : At (w2.alloc (.cells #[.int .u8 1, .int .u8 x.id.toNat, .string D1] 23)) w2.heap.size (1 : UInt8) x.id D1)
  have HG := Lib.hid (HG.out.below ((Below.refl w2.heap.size w2).alloc (Nat.le_refl _) _) : Globs (w2.alloc (.cells #[.int .u8 1, .int .u8 x.id.toNat, .string D1] 23)))
  have HH2 := Lib.hid (HH2.out.alloc HH2.out.size _ : Below w.heap.size w (w2.alloc (.cells #[.int .u8 1, .int .u8 x.id.toNat, .string D1] 23)))
  have cC0 := HC.out.c0
  have cC1 := HC.out.c1
  have cC2 := HC.out.c2
  have cC3 := HC.out.c3
  have cC4 := HC.out.c4
  have cC5 := HC.out.c5
  have cC6 := HC.out.c6
  have cC7 := HC.out.c7
  have cA0 := HA.out.c0
  have cA1 := HA.out.c1
  have cA2 := HA.out.c2
  go_wp2_with fail
  refine (KA.out _).mono ?_
  rintro e w3 ⟨rfl, hb3⟩
  have HC := Lib.hid (HC.out.callee hb3)
  have HA := Lib.hid (HA.out.callee hb3)
  have HG := Lib.hid (HG.out.below hb3)
  have HH3 := Lib.hid (HH2.out.trans (hb3.mono HH2.out.size))
  clear hb3
  have cC0 := HC.out.c0
  have cC1 := HC.out.c1
  have cC2 := HC.out.c2
  have cC3 := HC.out.c3
  have cC4 := HC.out.c4
  have cC5 := HC.out.c5
  have cC6 := HC.out.c6
  have cC7 := HC.out.c7
  have cA0 := HA.out.c0
  have cA1 := HA.out.c1
  have cA2 := HA.out.c2
  go_wp2_with fail
  refine (KU.out _).mono ?_
  rintro e w4 ⟨rfl, hb4⟩
  clear HA
  have HC := Lib.hid (HC.out.callee hb4)
  have HG := Lib.hid (HG.out.below hb4)
  have HH4 := Lib.hid (HH3.out.trans (hb4.mono HH3.out.size))
  clear hb4
  have HC := Lib.hid (HC.out.alloc _ : CsAt (w4.alloc (.cells #[.int .u8 cc.toNat, .int .u8 x.id.toNat, .string x.n] 23)) w.heap.size x)
  have HB := Lib.hid (at_new w4 cc x.id x.n : At (w4.alloc (.cells #[.int .u8 cc.toNat, .int .u8 x.id.toNat, .string x.n] 23)) w4.heap.size cc x.id x.n)
  have HG := Lib.hid (HG.out.below ((Below.refl w4.heap.size w4).alloc (Nat.le_refl _) _) : Globs (w4.alloc (.cells #[.int .u8 cc.toNat, .int .u8 x.id.toNat, .string x.n] 23)))
  have HH4 := Lib.hid (HH4.out.alloc HH4.out.size _ : Below w.heap.size w (w4.alloc (.cells #[.int .u8 cc.toNat, .int .u8 x.id.toNat, .string x.n] 23)))
  have cC0 := HC.out.c0
  have cC1 := HC.out.c1
  have cC2 := HC.out.c2
  have cC3 := HC.out.c3
  have cC4 := HC.out.c4
  have cC5 := HC.out.c5
  have cC6 := HC.out.c6
  have cC7 := HC.out.c7
  have cB0 := HB.out.c0
  have cB1 := HB.out.c1
  have cB2 := HB.out.c2
  go_wp2_with fail
  refine (KN.out _).mono ?_
  rintro e w5 ⟨rfl, hb5⟩
  have HC := Lib.hid (HC.out.callee hb5)
  have HB := Lib.hid (HB.out.callee hb5)
  have HG := Lib.hid (HG.out.below hb5)
  have HH5 := Lib.hid (HH4.out.trans (hb5.mono HH4.out.size))
  clear hb5
  have cC0 := HC.out.c0
  have cC1 := HC.out.c1
  have cC2 := HC.out.c2
  have cC3 := HC.out.c3
  have cC4 := HC.out.c4
  have cC5 := HC.out.c5
  have cC6 := HC.out.c6
  have cC7 := HC.out.c7
  have cB0 := HB.out.c0
  have cB1 := HB.out.c1
  have cB2 := HB.out.c2
  go_wp2_with fail
  refine (KR.out _).mono ?_
  rintro e w6 ⟨rfl, hb6⟩
  clear HB
  have HC := Lib.hid (HC.out.callee hb6)
  have HG := Lib.hid (HG.out.below hb6)
  have HH6 := Lib.hid (HH5.out.trans (hb6.mono HH5.out.size))
  clear hb6
  have cC0 := HC.out.c0
  have cC1 := HC.out.c1
  have cC2 := HC.out.c2
  have cC3 := HC.out.c3
  have cC4 := HC.out.c4
  have cC5 := HC.out.c5
  have cC6 := HC.out.c6
  have cC7 := HC.out.c7
  go_wp2_with fail
  refine (KP.out _).mono ?_
  rintro e w7 ⟨rfl, hb7⟩
  have HC := Lib.hid (HC.out.callee hb7)
  have HG := Lib.hid (HG.out.below hb7)
  have HH7 := Lib.hid (HH6.out.trans (hb7.mono HH6.out.size))
  clear hb7
  have HC := Lib.hid (HC.out.alloc _ : CsAt (w7.alloc (.cells #[.int .u8 x.p.c.toNat, .int .u8 x.p.i.toNat, .string x.p.d] 23)) w.heap.size x)
  have HE := Lib.hid (at_new w7 x.p.c x.p.i x.p.d : At (w7.alloc (.cells #[.int .u8 x.p.c.toNat, .int .u8 x.p.i.toNat, .string x.p.d] 23)) w7.heap.size x.p.c x.p.i x.p.d)
  have HG := Lib.hid (HG.out.below ((Below.refl w7.heap.size w7).alloc (Nat.le_refl _) _) : Globs (w7.alloc (.cells #[.int .u8 x.p.c.toNat, .int .u8 x.p.i.toNat, .string x.p.d] 23)))
  have HH7 := Lib.hid (HH7.out.alloc HH7.out.size _ : Below w.heap.size w (w7.alloc (.cells #[.int .u8 x.p.c.toNat, .int .u8 x.p.i.toNat, .string x.p.d] 23)))
  have cC0 := HC.out.c0
  have cC1 := HC.out.c1
  have cC2 := HC.out.c2
  have cC3 := HC.out.c3
  have cC4 := HC.out.c4
  have cC5 := HC.out.c5
  have cC6 := HC.out.c6
  have cC7 := HC.out.c7
  have cE0 := HE.out.c0
  have cE1 := HE.out.c1
  have cE2 := HE.out.c2
  go_wp2_with fail
  refine (KT.out _).mono ?_
  rintro e w8 ⟨rfl, hb8⟩
  clear HE
  have HC := Lib.hid (HC.out.callee hb8)
  have HG := Lib.hid (HG.out.below hb8)
  have HH8 := Lib.hid (HH7.out.trans (hb8.mono HH7.out.size))
  clear hb8
  have cC0 := HC.out.c0
  have cC1 := HC.out.c1
  have cC2 := HC.out.c2
  have cC3 := HC.out.c3
  have cC4 := HC.out.c4
  have cC5 := HC.out.c5
  have cC6 := HC.out.c6
  have cC7 := HC.out.c7
  go_wp2_with fail
  refine (alive_any _ HG.out).mono ?_
  rintro e w9 ⟨rfl, hb9⟩
  have HC := Lib.hid (HC.out.callee hb9)
  have HG := Lib.hid (HG.out.below hb9)
  have HH9 := Lib.hid (HH8.out.trans (hb9.mono HH8.out.size))
  clear hb9
  go_wp2
  go_ret
  exact ⟨rfl, HH9.out⟩
set_option maxHeartbeats 8000000 in
set_option maxRecDepth 100000 in
theorem w2_resp (x : Cas) (w : World) (hs : x.s.size ≤ 4096) (hv : x.v.size ≤ 4096) (hn : x.n.size ≤ 4096) (hd : x.p.d.size ≤ 4096) (hl : lgB x = false) (hG : Globs w) (h1 : chE x.v x.n = 0) (h3 : rdE x.p.c x.p.d = 0) (h5 : x.p.c ≠ 1) :
    Calls Tryd.prog 4 #[.agg #[.int .u8 x.id.toNat, .string x.s, .string x.v, .string x.n, .bool x.b, .int .u8 x.p.c.toNat, .int .u8 x.p.i.toNat, .string x.p.d]] w fun e w' => e = .returned (.bool true) ∧ Below w.heap.size w w' := by
  have HG := Lib.hid hG; clear hG
  have HH0 := Lib.hid (Below.refl w.heap.size w)
  have HC := Lib.hid (cs_new w x)
  have HH0 := Lib.hid (HH0.out.alloc HH0.out.size _ : Below w.heap.size w (w.alloc (.cells #[.int .u8 x.id.toNat, .string x.s, .string x.v, .string x.n, .bool x.b, .int .u8 x.p.c.toNat, .int .u8 x.p.i.toNat, .string x.p.d] 25)))
  have HG := Lib.hid (HG.out.below HH0.out)
  have KLg := Lib.hid (fun W => long_any x W (by omega) (by omega) (by omega) (by omega))
  rw [hl] at KLg
  have KQ := Lib.hid (fun w => challenge_any x.id x.v x.n w (by unfold maxLen; omega) (by omega))
  have KU := Lib.hid (fun w => answer_any x.id x.b x.n w (by omega))
  have h2 := la_of h1
  have hz1 : (vn x.v x.n).size ≤ 10000 := by rw [vn_size]; omega
  have KA := Lib.hid (fun w => read_any 1 x.id (vn x.v x.n) w (by unfold maxLen; omega))
  rw [put_rdV h1] at KA
  rw [pkV_ok h1] at KQ
  generalize vn x.v x.n = D1 at *
  clear hz1
  have KN := Lib.hid (fun w => answered_any (if x.b = true then 3 else 4) x.id x.n w (by unfold maxLen; omega))
  rw [anV_ok (cc_an h2), cc_three] at KN
  rw [pkV_ok h2] at KU
  generalize (if x.b = true then (3 : UInt8) else 4) = cc at *
  have KR := Lib.hid (fun w => read_any x.p.c x.p.i x.p.d w (by unfold maxLen; omega))
  have KT := Lib.hid (fun w => answered_any x.p.c x.p.i x.p.d w (by unfold maxLen; omega))
  obtain ⟨hcc, hch, hvn, hs1, hs2, hs3⟩ := read_put h3
  have h4 : anE x.p.c x.p.d = 8 := an_type _ (fun e => by rcases hcc with e1 | e1 <;> rw [e1] at e <;> revert e <;> decide)
  rw [anV_bad h4 (by decide)] at KT
  unfold rdV at KR
  rw [h3] at KR
  have hc1 : ((x.p.c.toNat : Int) == 1) = false := by rw [beq_eq_false_iff_ne]; intro e; exact h5 (UInt8.toNat_inj.1 (by show _ = 1; omega))
  generalize rdA x.p.c x.p.d = y at *
  generalize rdB x.p.c x.p.d = z at *
  clear hch hvn hs1 hs2 hs3
  have f1 := beq_self x.v
  have f2 := beq_self x.n
  have f3 : ((x.id.toNat : Int) == x.id.toNat) = true := by simp
  have f4 : (x.b == x.b) = true := by simp
  have f5 := emp
  clear h1 h2
  clear h3 h4 h5 hcc
  go_enter Tryd.func4, Tryd.ntmps4
  have cC0 := HC.out.c0
  have cC1 := HC.out.c1
  have cC2 := HC.out.c2
  have cC3 := HC.out.c3
  have cC4 := HC.out.c4
  have cC5 := HC.out.c5
  have cC6 := HC.out.c6
  have cC7 := HC.out.c7
  go_wp2_with fail
  refine (KLg.out _).mono ?_
  rintro e w1 ⟨rfl, hb1⟩
  have HC := Lib.hid (HC.out.callee hb1)
  have HG := Lib.hid (HG.out.below hb1)
  have HH1 := Lib.hid (HH0.out.trans (hb1.mono HH0.out.size))
  clear hb1
  have cC0 := HC.out.c0
  have cC1 := HC.out.c1
  have cC2 := HC.out.c2
  have cC3 := HC.out.c3
  have cC4 := HC.out.c4
  have cC5 := HC.out.c5
  have cC6 := HC.out.c6
  have cC7 := HC.out.c7
  go_wp2_with fail
  refine (KQ.out _).mono ?_
  rintro e w2 ⟨rfl, hb2⟩
  have HC := Lib.hid (HC.out.callee hb2)
  have HG := Lib.hid (HG.out.below hb2)
  have HH2 := Lib.hid (HH1.out.trans (hb2.mono HH1.out.size))
  clear hb2
  have HC := Lib.hid (HC.out.alloc _ : CsAt (w2.alloc (.cells #[.int .u8 1, .int .u8 x.id.toNat, .string D1] 23)) w.heap.size x)
  have HA := Lib.hid (at_new w2 (1 : UInt8) x.id D1 : At (w2.alloc (.cells #[.int .u8 1, .int .u8 x.id.toNat, .string D1] 23)) w2.heap.size (1 : UInt8) x.id D1)
  have HG := Lib.hid (HG.out.below ((Below.refl w2.heap.size w2).alloc (Nat.le_refl _) _) : Globs (w2.alloc (.cells #[.int .u8 1, .int .u8 x.id.toNat, .string D1] 23)))
  have HH2 := Lib.hid (HH2.out.alloc HH2.out.size _ : Below w.heap.size w (w2.alloc (.cells #[.int .u8 1, .int .u8 x.id.toNat, .string D1] 23)))
  have cC0 := HC.out.c0
  have cC1 := HC.out.c1
  have cC2 := HC.out.c2
  have cC3 := HC.out.c3
  have cC4 := HC.out.c4
  have cC5 := HC.out.c5
  have cC6 := HC.out.c6
  have cC7 := HC.out.c7
  have cA0 := HA.out.c0
  have cA1 := HA.out.c1
  have cA2 := HA.out.c2
  go_wp2_with fail
  refine (KA.out _).mono ?_
  rintro e w3 ⟨rfl, hb3⟩
  have HC := Lib.hid (HC.out.callee hb3)
  have HA := Lib.hid (HA.out.callee hb3)
  have HG := Lib.hid (HG.out.below hb3)
  have HH3 := Lib.hid (HH2.out.trans (hb3.mono HH2.out.size))
  clear hb3
  have cC0 := HC.out.c0
  have cC1 := HC.out.c1
  have cC2 := HC.out.c2
  have cC3 := HC.out.c3
  have cC4 := HC.out.c4
  have cC5 := HC.out.c5
  have cC6 := HC.out.c6
  have cC7 := HC.out.c7
  have cA0 := HA.out.c0
  have cA1 := HA.out.c1
  have cA2 := HA.out.c2
  go_wp2_with fail
  refine (KU.out _).mono ?_
  rintro e w4 ⟨rfl, hb4⟩
  clear HA
  have HC := Lib.hid (HC.out.callee hb4)
  have HG := Lib.hid (HG.out.below hb4)
  have HH4 := Lib.hid (HH3.out.trans (hb4.mono HH3.out.size))
  clear hb4
  have HC := Lib.hid (HC.out.alloc _ : CsAt (w4.alloc (.cells #[.int .u8 cc.toNat, .int .u8 x.id.toNat, .string x.n] 23)) w.heap.size x)
  have HB := Lib.hid (at_new w4 cc x.id x.n : At (w4.alloc (.cells #[.int .u8 cc.toNat, .int .u8 x.id.toNat, .string x.n] 23)) w4.heap.size cc x.id x.n)
  have HG := Lib.hid (HG.out.below ((Below.refl w4.heap.size w4).alloc (Nat.le_refl _) _) : Globs (w4.alloc (.cells #[.int .u8 cc.toNat, .int .u8 x.id.toNat, .string x.n] 23)))
  have HH4 := Lib.hid (HH4.out.alloc HH4.out.size _ : Below w.heap.size w (w4.alloc (.cells #[.int .u8 cc.toNat, .int .u8 x.id.toNat, .string x.n] 23)))
  have cC0 := HC.out.c0
  have cC1 := HC.out.c1
  have cC2 := HC.out.c2
  have cC3 := HC.out.c3
  have cC4 := HC.out.c4
  have cC5 := HC.out.c5
  have cC6 := HC.out.c6
  have cC7 := HC.out.c7
  have cB0 := HB.out.c0
  have cB1 := HB.out.c1
  have cB2 := HB.out.c2
  go_wp2_with fail
  refine (KN.out _).mono ?_
  rintro e w5 ⟨rfl, hb5⟩
  have HC := Lib.hid (HC.out.callee hb5)
  have HB := Lib.hid (HB.out.callee hb5)
  have HG := Lib.hid (HG.out.below hb5)
  have HH5 := Lib.hid (HH4.out.trans (hb5.mono HH4.out.size))
  clear hb5
  have cC0 := HC.out.c0
  have cC1 := HC.out.c1
  have cC2 := HC.out.c2
  have cC3 := HC.out.c3
  have cC4 := HC.out.c4
  have cC5 := HC.out.c5
  have cC6 := HC.out.c6
  have cC7 := HC.out.c7
  have cB0 := HB.out.c0
  have cB1 := HB.out.c1
  have cB2 := HB.out.c2
  go_wp2_with fail
  refine (KR.out _).mono ?_
  rintro e w6 ⟨rfl, hb6⟩
  clear HB
  have HC := Lib.hid (HC.out.callee hb6)
  have HG := Lib.hid (HG.out.below hb6)
  have HH6 := Lib.hid (HH5.out.trans (hb6.mono HH5.out.size))
  clear hb6
  have cC0 := HC.out.c0
  have cC1 := HC.out.c1
  have cC2 := HC.out.c2
  have cC3 := HC.out.c3
  have cC4 := HC.out.c4
  have cC5 := HC.out.c5
  have cC6 := HC.out.c6
  have cC7 := HC.out.c7
  go_wp2_with fail
  refine (KT.out _).mono ?_
  rintro e w7 ⟨rfl, hb7⟩
  have HC := Lib.hid (HC.out.callee hb7)
  have HG := Lib.hid (HG.out.below hb7)
  have HH7 := Lib.hid (HH6.out.trans (hb7.mono HH6.out.size))
  clear hb7
  have cC0 := HC.out.c0
  have cC1 := HC.out.c1
  have cC2 := HC.out.c2
  have cC3 := HC.out.c3
  have cC4 := HC.out.c4
  have cC5 := HC.out.c5
  have cC6 := HC.out.c6
  have cC7 := HC.out.c7
  go_wp2_with fail
  refine (alive_any _ HG.out).mono ?_
  rintro e w8 ⟨rfl, hb8⟩
  have HC := Lib.hid (HC.out.callee hb8)
  have HG := Lib.hid (HG.out.below hb8)
  have HH8 := Lib.hid (HH7.out.trans (hb8.mono HH7.out.size))
  clear hb8
  go_wp2
  go_ret
  exact ⟨rfl, HH8.out⟩
set_option maxHeartbeats 8000000 in
set_option maxRecDepth 100000 in
theorem w2_ans (x : Cas) (w : World) (hs : x.s.size ≤ 4096) (hv : x.v.size ≤ 4096) (hn : x.n.size ≤ 4096) (hd : x.p.d.size ≤ 4096) (hl : lgB x = false) (hG : Globs w) (h1 : chE x.v x.n = 0) (h4 : anE x.p.c x.p.d = 0) :
    Calls Tryd.prog 4 #[.agg #[.int .u8 x.id.toNat, .string x.s, .string x.v, .string x.n, .bool x.b, .int .u8 x.p.c.toNat, .int .u8 x.p.i.toNat, .string x.p.d]] w fun e w' => e = .returned (.bool true) ∧ Below w.heap.size w w' := by
  have HG := Lib.hid hG; clear hG
  have HH0 := Lib.hid (Below.refl w.heap.size w)
  have HC := Lib.hid (cs_new w x)
  have HH0 := Lib.hid (HH0.out.alloc HH0.out.size _ : Below w.heap.size w (w.alloc (.cells #[.int .u8 x.id.toNat, .string x.s, .string x.v, .string x.n, .bool x.b, .int .u8 x.p.c.toNat, .int .u8 x.p.i.toNat, .string x.p.d] 25)))
  have HG := Lib.hid (HG.out.below HH0.out)
  have KLg := Lib.hid (fun W => long_any x W (by omega) (by omega) (by omega) (by omega))
  rw [hl] at KLg
  have KQ := Lib.hid (fun w => challenge_any x.id x.v x.n w (by unfold maxLen; omega) (by omega))
  have KU := Lib.hid (fun w => answer_any x.id x.b x.n w (by omega))
  have h2 := la_of h1
  have hz1 : (vn x.v x.n).size ≤ 10000 := by rw [vn_size]; omega
  have KA := Lib.hid (fun w => read_any 1 x.id (vn x.v x.n) w (by unfold maxLen; omega))
  rw [put_rdV h1] at KA
  rw [pkV_ok h1] at KQ
  generalize vn x.v x.n = D1 at *
  clear hz1
  have KN := Lib.hid (fun w => answered_any (if x.b = true then 3 else 4) x.id x.n w (by unfold maxLen; omega))
  rw [anV_ok (cc_an h2), cc_three] at KN
  rw [pkV_ok h2] at KU
  generalize (if x.b = true then (3 : UInt8) else 4) = cc at *
  have KR := Lib.hid (fun w => read_any x.p.c x.p.i x.p.d w (by unfold maxLen; omega))
  have KT := Lib.hid (fun w => answered_any x.p.c x.p.i x.p.d w (by unfold maxLen; omega))
  have hw := an_put h4
  have h3 : rdE x.p.c x.p.d = 8 := rd_type _ (fun e => by rcases e with e | e <;> rw [e] at h4 <;> revert h4 <;> simp [anE])
  rw [rdV_bad h3 (by decide)] at KR
  unfold anV at KT
  rw [h4, hw.1] at KT
  have KP := Lib.hid (fun w => answer_any x.p.i (anW x.p.c x.p.d) x.p.d w (by omega))
  rw [pkV_ok hw.2.2.2, hw.2.2.1] at KP
  generalize anW x.p.c x.p.d = b5 at *
  clear hw
  have hq0 : ∀ W, (Op.equalIn 10000 23 (.agg #[.int .u8 x.p.c.toNat, .int .u8 x.p.i.toNat, .string x.p.d]) (.agg #[.int .u8 x.p.c.toNat, .int .u8 x.p.i.toNat, .string x.p.d])).run Tryd.prog W = .ok true W := pk_eq (c := x.p.c) (c' := x.p.c) (i := x.p.i) (i' := x.p.i) (s := x.p.d) (s' := x.p.d) (pk_same _ _ _)
  have hq1 : ∀ W, (binOp .eql 23 (.agg #[.int .u8 x.p.c.toNat, .int .u8 x.p.i.toNat, .string x.p.d]) (.agg #[.int .u8 x.p.c.toNat, .int .u8 x.p.i.toNat, .string x.p.d])).run Tryd.prog W = .ok (.bool true) W := pk_eql (c := x.p.c) (c' := x.p.c) (i := x.p.i) (i' := x.p.i) (s := x.p.d) (s' := x.p.d) (pk_same _ _ _)
  have hq2 : ∀ W, (binOp .neq 23 (.agg #[.int .u8 x.p.c.toNat, .int .u8 x.p.i.toNat, .string x.p.d]) (.agg #[.int .u8 x.p.c.toNat, .int .u8 x.p.i.toNat, .string x.p.d])).run Tryd.prog W = .ok (.bool false) W := pk_neq (c := x.p.c) (c' := x.p.c) (i := x.p.i) (i' := x.p.i) (s := x.p.d) (s' := x.p.d) (pk_same _ _ _)
  have f1 := beq_self x.v
  have f2 := beq_self x.n
  have f3 : ((x.id.toNat : Int) == x.id.toNat) = true := by simp
  have f4 : (x.b == x.b) = true := by simp
  have f5 := emp
  clear h1 h2
  clear h3 h4
  go_enter Tryd.func4, Tryd.ntmps4
  have cC0 := HC.out.c0
  have cC1 := HC.out.c1
  have cC2 := HC.out.c2
  have cC3 := HC.out.c3
  have cC4 := HC.out.c4
  have cC5 := HC.out.c5
  have cC6 := HC.out.c6
  have cC7 := HC.out.c7
  go_wp2_with fail
  refine (KLg.out _).mono ?_
  rintro e w1 ⟨rfl, hb1⟩
  have HC := Lib.hid (HC.out.callee hb1)
  have HG := Lib.hid (HG.out.below hb1)
  have HH1 := Lib.hid (HH0.out.trans (hb1.mono HH0.out.size))
  clear hb1
  have cC0 := HC.out.c0
  have cC1 := HC.out.c1
  have cC2 := HC.out.c2
  have cC3 := HC.out.c3
  have cC4 := HC.out.c4
  have cC5 := HC.out.c5
  have cC6 := HC.out.c6
  have cC7 := HC.out.c7
  go_wp2_with fail
  refine (KQ.out _).mono ?_
  rintro e w2 ⟨rfl, hb2⟩
  have HC := Lib.hid (HC.out.callee hb2)
  have HG := Lib.hid (HG.out.below hb2)
  have HH2 := Lib.hid (HH1.out.trans (hb2.mono HH1.out.size))
  clear hb2
  have HC := Lib.hid (HC.out.alloc _ : CsAt (w2.alloc (.cells #[.int .u8 1, .int .u8 x.id.toNat, .string D1] 23)) w.heap.size x)
  have HA := Lib.hid (at_new w2 (1 : UInt8) x.id D1 : At (w2.alloc (.cells #[.int .u8 1, .int .u8 x.id.toNat, .string D1] 23)) w2.heap.size (1 : UInt8) x.id D1)
  have HG := Lib.hid (HG.out.below ((Below.refl w2.heap.size w2).alloc (Nat.le_refl _) _) : Globs (w2.alloc (.cells #[.int .u8 1, .int .u8 x.id.toNat, .string D1] 23)))
  have HH2 := Lib.hid (HH2.out.alloc HH2.out.size _ : Below w.heap.size w (w2.alloc (.cells #[.int .u8 1, .int .u8 x.id.toNat, .string D1] 23)))
  have cC0 := HC.out.c0
  have cC1 := HC.out.c1
  have cC2 := HC.out.c2
  have cC3 := HC.out.c3
  have cC4 := HC.out.c4
  have cC5 := HC.out.c5
  have cC6 := HC.out.c6
  have cC7 := HC.out.c7
  have cA0 := HA.out.c0
  have cA1 := HA.out.c1
  have cA2 := HA.out.c2
  go_wp2_with fail
  refine (KA.out _).mono ?_
  rintro e w3 ⟨rfl, hb3⟩
  have HC := Lib.hid (HC.out.callee hb3)
  have HA := Lib.hid (HA.out.callee hb3)
  have HG := Lib.hid (HG.out.below hb3)
  have HH3 := Lib.hid (HH2.out.trans (hb3.mono HH2.out.size))
  clear hb3
  have cC0 := HC.out.c0
  have cC1 := HC.out.c1
  have cC2 := HC.out.c2
  have cC3 := HC.out.c3
  have cC4 := HC.out.c4
  have cC5 := HC.out.c5
  have cC6 := HC.out.c6
  have cC7 := HC.out.c7
  have cA0 := HA.out.c0
  have cA1 := HA.out.c1
  have cA2 := HA.out.c2
  go_wp2_with fail
  refine (KU.out _).mono ?_
  rintro e w4 ⟨rfl, hb4⟩
  clear HA
  have HC := Lib.hid (HC.out.callee hb4)
  have HG := Lib.hid (HG.out.below hb4)
  have HH4 := Lib.hid (HH3.out.trans (hb4.mono HH3.out.size))
  clear hb4
  have HC := Lib.hid (HC.out.alloc _ : CsAt (w4.alloc (.cells #[.int .u8 cc.toNat, .int .u8 x.id.toNat, .string x.n] 23)) w.heap.size x)
  have HB := Lib.hid (at_new w4 cc x.id x.n : At (w4.alloc (.cells #[.int .u8 cc.toNat, .int .u8 x.id.toNat, .string x.n] 23)) w4.heap.size cc x.id x.n)
  have HG := Lib.hid (HG.out.below ((Below.refl w4.heap.size w4).alloc (Nat.le_refl _) _) : Globs (w4.alloc (.cells #[.int .u8 cc.toNat, .int .u8 x.id.toNat, .string x.n] 23)))
  have HH4 := Lib.hid (HH4.out.alloc HH4.out.size _ : Below w.heap.size w (w4.alloc (.cells #[.int .u8 cc.toNat, .int .u8 x.id.toNat, .string x.n] 23)))
  have cC0 := HC.out.c0
  have cC1 := HC.out.c1
  have cC2 := HC.out.c2
  have cC3 := HC.out.c3
  have cC4 := HC.out.c4
  have cC5 := HC.out.c5
  have cC6 := HC.out.c6
  have cC7 := HC.out.c7
  have cB0 := HB.out.c0
  have cB1 := HB.out.c1
  have cB2 := HB.out.c2
  go_wp2_with fail
  refine (KN.out _).mono ?_
  rintro e w5 ⟨rfl, hb5⟩
  have HC := Lib.hid (HC.out.callee hb5)
  have HB := Lib.hid (HB.out.callee hb5)
  have HG := Lib.hid (HG.out.below hb5)
  have HH5 := Lib.hid (HH4.out.trans (hb5.mono HH4.out.size))
  clear hb5
  have cC0 := HC.out.c0
  have cC1 := HC.out.c1
  have cC2 := HC.out.c2
  have cC3 := HC.out.c3
  have cC4 := HC.out.c4
  have cC5 := HC.out.c5
  have cC6 := HC.out.c6
  have cC7 := HC.out.c7
  have cB0 := HB.out.c0
  have cB1 := HB.out.c1
  have cB2 := HB.out.c2
  go_wp2_with fail
  refine (KR.out _).mono ?_
  rintro e w6 ⟨rfl, hb6⟩
  clear HB
  have HC := Lib.hid (HC.out.callee hb6)
  have HG := Lib.hid (HG.out.below hb6)
  have HH6 := Lib.hid (HH5.out.trans (hb6.mono HH5.out.size))
  clear hb6
  have cC0 := HC.out.c0
  have cC1 := HC.out.c1
  have cC2 := HC.out.c2
  have cC3 := HC.out.c3
  have cC4 := HC.out.c4
  have cC5 := HC.out.c5
  have cC6 := HC.out.c6
  have cC7 := HC.out.c7
  go_wp2_with fail
  refine (KT.out _).mono ?_
  rintro e w7 ⟨rfl, hb7⟩
  have HC := Lib.hid (HC.out.callee hb7)
  have HG := Lib.hid (HG.out.below hb7)
  have HH7 := Lib.hid (HH6.out.trans (hb7.mono HH6.out.size))
  clear hb7
  have cC0 := HC.out.c0
  have cC1 := HC.out.c1
  have cC2 := HC.out.c2
  have cC3 := HC.out.c3
  have cC4 := HC.out.c4
  have cC5 := HC.out.c5
  have cC6 := HC.out.c6
  have cC7 := HC.out.c7
  go_wp2_with fail
  refine (KP.out _).mono ?_
  rintro e w8 ⟨rfl, hb8⟩
  have HC := Lib.hid (HC.out.callee hb8)
  have HG := Lib.hid (HG.out.below hb8)
  have HH8 := Lib.hid (HH7.out.trans (hb8.mono HH7.out.size))
  clear hb8
  have HC := Lib.hid (HC.out.alloc _ : CsAt (w8.alloc (.cells #[.int .u8 x.p.c.toNat, .int .u8 x.p.i.toNat, .string x.p.d] 23)) w.heap.size x)
  have HF := Lib.hid (at_new w8 x.p.c x.p.i x.p.d : At (w8.alloc (.cells #[.int .u8 x.p.c.toNat, .int .u8 x.p.i.toNat, .string x.p.d] 23)) w8.heap.size x.p.c x.p.i x.p.d)
  have HG := Lib.hid (HG.out.below ((Below.refl w8.heap.size w8).alloc (Nat.le_refl _) _) : Globs (w8.alloc (.cells #[.int .u8 x.p.c.toNat, .int .u8 x.p.i.toNat, .string x.p.d] 23)))
  have HH8 := Lib.hid (HH8.out.alloc HH8.out.size _ : Below w.heap.size w (w8.alloc (.cells #[.int .u8 x.p.c.toNat, .int .u8 x.p.i.toNat, .string x.p.d] 23)))
  have cC0 := HC.out.c0
  have cC1 := HC.out.c1
  have cC2 := HC.out.c2
  have cC3 := HC.out.c3
  have cC4 := HC.out.c4
  have cC5 := HC.out.c5
  have cC6 := HC.out.c6
  have cC7 := HC.out.c7
  have cF0 := HF.out.c0
  have cF1 := HF.out.c1
  have cF2 := HF.out.c2
  go_wp2_with fail
  refine (alive_any _ HG.out).mono ?_
  rintro e w9 ⟨rfl, hb9⟩
  clear HF
  have HC := Lib.hid (HC.out.callee hb9)
  have HG := Lib.hid (HG.out.below hb9)
  have HH9 := Lib.hid (HH8.out.trans (hb9.mono HH8.out.size))
  clear hb9
  go_wp2
  go_ret
  exact ⟨rfl, HH9.out⟩
set_option maxHeartbeats 8000000 in
set_option maxRecDepth 100000 in
theorem w2_none (x : Cas) (w : World) (hs : x.s.size ≤ 4096) (hv : x.v.size ≤ 4096) (hn : x.n.size ≤ 4096) (hd : x.p.d.size ≤ 4096) (hl : lgB x = false) (hG : Globs w) (h1 : chE x.v x.n = 0) (h3 : rdE x.p.c x.p.d ≠ 0) (h4 : anE x.p.c x.p.d ≠ 0) :
    Calls Tryd.prog 4 #[.agg #[.int .u8 x.id.toNat, .string x.s, .string x.v, .string x.n, .bool x.b, .int .u8 x.p.c.toNat, .int .u8 x.p.i.toNat, .string x.p.d]] w fun e w' => e = .returned (.bool true) ∧ Below w.heap.size w w' := by
  have HG := Lib.hid hG; clear hG
  have HH0 := Lib.hid (Below.refl w.heap.size w)
  have HC := Lib.hid (cs_new w x)
  have HH0 := Lib.hid (HH0.out.alloc HH0.out.size _ : Below w.heap.size w (w.alloc (.cells #[.int .u8 x.id.toNat, .string x.s, .string x.v, .string x.n, .bool x.b, .int .u8 x.p.c.toNat, .int .u8 x.p.i.toNat, .string x.p.d] 25)))
  have HG := Lib.hid (HG.out.below HH0.out)
  have KLg := Lib.hid (fun W => long_any x W (by omega) (by omega) (by omega) (by omega))
  rw [hl] at KLg
  have KQ := Lib.hid (fun w => challenge_any x.id x.v x.n w (by unfold maxLen; omega) (by omega))
  have KU := Lib.hid (fun w => answer_any x.id x.b x.n w (by omega))
  have h2 := la_of h1
  have hz1 : (vn x.v x.n).size ≤ 10000 := by rw [vn_size]; omega
  have KA := Lib.hid (fun w => read_any 1 x.id (vn x.v x.n) w (by unfold maxLen; omega))
  rw [put_rdV h1] at KA
  rw [pkV_ok h1] at KQ
  generalize vn x.v x.n = D1 at *
  clear hz1
  have KN := Lib.hid (fun w => answered_any (if x.b = true then 3 else 4) x.id x.n w (by unfold maxLen; omega))
  rw [anV_ok (cc_an h2), cc_three] at KN
  rw [pkV_ok h2] at KU
  generalize (if x.b = true then (3 : UInt8) else 4) = cc at *
  have KR := Lib.hid (fun w => read_any x.p.c x.p.i x.p.d w (by unfold maxLen; omega))
  have KT := Lib.hid (fun w => answered_any x.p.c x.p.i x.p.d w (by unfold maxLen; omega))
  have hE3 : (rdE x.p.c x.p.d == 0) = false := by rw [beq_eq_false_iff_ne]; exact h3
  have hE4 : (anE x.p.c x.p.d == 0) = false := by rw [beq_eq_false_iff_ne]; exact h4
  rw [rdV_bad rfl h3] at KR
  rw [anV_bad rfl h4] at KT
  generalize rdE x.p.c x.p.d = E3 at *
  generalize anE x.p.c x.p.d = E4 at *
  have f1 := beq_self x.v
  have f2 := beq_self x.n
  have f3 : ((x.id.toNat : Int) == x.id.toNat) = true := by simp
  have f4 : (x.b == x.b) = true := by simp
  have f5 := emp
  clear h1 h2
  clear h3 h4
  go_enter Tryd.func4, Tryd.ntmps4
  have cC0 := HC.out.c0
  have cC1 := HC.out.c1
  have cC2 := HC.out.c2
  have cC3 := HC.out.c3
  have cC4 := HC.out.c4
  have cC5 := HC.out.c5
  have cC6 := HC.out.c6
  have cC7 := HC.out.c7
  go_wp2_with fail
  refine (KLg.out _).mono ?_
  rintro e w1 ⟨rfl, hb1⟩
  have HC := Lib.hid (HC.out.callee hb1)
  have HG := Lib.hid (HG.out.below hb1)
  have HH1 := Lib.hid (HH0.out.trans (hb1.mono HH0.out.size))
  clear hb1
  have cC0 := HC.out.c0
  have cC1 := HC.out.c1
  have cC2 := HC.out.c2
  have cC3 := HC.out.c3
  have cC4 := HC.out.c4
  have cC5 := HC.out.c5
  have cC6 := HC.out.c6
  have cC7 := HC.out.c7
  go_wp2_with fail
  refine (KQ.out _).mono ?_
  rintro e w2 ⟨rfl, hb2⟩
  have HC := Lib.hid (HC.out.callee hb2)
  have HG := Lib.hid (HG.out.below hb2)
  have HH2 := Lib.hid (HH1.out.trans (hb2.mono HH1.out.size))
  clear hb2
  have HC := Lib.hid (HC.out.alloc _ : CsAt (w2.alloc (.cells #[.int .u8 1, .int .u8 x.id.toNat, .string D1] 23)) w.heap.size x)
  have HA := Lib.hid (at_new w2 (1 : UInt8) x.id D1 : At (w2.alloc (.cells #[.int .u8 1, .int .u8 x.id.toNat, .string D1] 23)) w2.heap.size (1 : UInt8) x.id D1)
  have HG := Lib.hid (HG.out.below ((Below.refl w2.heap.size w2).alloc (Nat.le_refl _) _) : Globs (w2.alloc (.cells #[.int .u8 1, .int .u8 x.id.toNat, .string D1] 23)))
  have HH2 := Lib.hid (HH2.out.alloc HH2.out.size _ : Below w.heap.size w (w2.alloc (.cells #[.int .u8 1, .int .u8 x.id.toNat, .string D1] 23)))
  have cC0 := HC.out.c0
  have cC1 := HC.out.c1
  have cC2 := HC.out.c2
  have cC3 := HC.out.c3
  have cC4 := HC.out.c4
  have cC5 := HC.out.c5
  have cC6 := HC.out.c6
  have cC7 := HC.out.c7
  have cA0 := HA.out.c0
  have cA1 := HA.out.c1
  have cA2 := HA.out.c2
  go_wp2_with fail
  refine (KA.out _).mono ?_
  rintro e w3 ⟨rfl, hb3⟩
  have HC := Lib.hid (HC.out.callee hb3)
  have HA := Lib.hid (HA.out.callee hb3)
  have HG := Lib.hid (HG.out.below hb3)
  have HH3 := Lib.hid (HH2.out.trans (hb3.mono HH2.out.size))
  clear hb3
  have cC0 := HC.out.c0
  have cC1 := HC.out.c1
  have cC2 := HC.out.c2
  have cC3 := HC.out.c3
  have cC4 := HC.out.c4
  have cC5 := HC.out.c5
  have cC6 := HC.out.c6
  have cC7 := HC.out.c7
  have cA0 := HA.out.c0
  have cA1 := HA.out.c1
  have cA2 := HA.out.c2
  go_wp2_with fail
  refine (KU.out _).mono ?_
  rintro e w4 ⟨rfl, hb4⟩
  clear HA
  have HC := Lib.hid (HC.out.callee hb4)
  have HG := Lib.hid (HG.out.below hb4)
  have HH4 := Lib.hid (HH3.out.trans (hb4.mono HH3.out.size))
  clear hb4
  have HC := Lib.hid (HC.out.alloc _ : CsAt (w4.alloc (.cells #[.int .u8 cc.toNat, .int .u8 x.id.toNat, .string x.n] 23)) w.heap.size x)
  have HB := Lib.hid (at_new w4 cc x.id x.n : At (w4.alloc (.cells #[.int .u8 cc.toNat, .int .u8 x.id.toNat, .string x.n] 23)) w4.heap.size cc x.id x.n)
  have HG := Lib.hid (HG.out.below ((Below.refl w4.heap.size w4).alloc (Nat.le_refl _) _) : Globs (w4.alloc (.cells #[.int .u8 cc.toNat, .int .u8 x.id.toNat, .string x.n] 23)))
  have HH4 := Lib.hid (HH4.out.alloc HH4.out.size _ : Below w.heap.size w (w4.alloc (.cells #[.int .u8 cc.toNat, .int .u8 x.id.toNat, .string x.n] 23)))
  have cC0 := HC.out.c0
  have cC1 := HC.out.c1
  have cC2 := HC.out.c2
  have cC3 := HC.out.c3
  have cC4 := HC.out.c4
  have cC5 := HC.out.c5
  have cC6 := HC.out.c6
  have cC7 := HC.out.c7
  have cB0 := HB.out.c0
  have cB1 := HB.out.c1
  have cB2 := HB.out.c2
  go_wp2_with fail
  refine (KN.out _).mono ?_
  rintro e w5 ⟨rfl, hb5⟩
  have HC := Lib.hid (HC.out.callee hb5)
  have HB := Lib.hid (HB.out.callee hb5)
  have HG := Lib.hid (HG.out.below hb5)
  have HH5 := Lib.hid (HH4.out.trans (hb5.mono HH4.out.size))
  clear hb5
  have cC0 := HC.out.c0
  have cC1 := HC.out.c1
  have cC2 := HC.out.c2
  have cC3 := HC.out.c3
  have cC4 := HC.out.c4
  have cC5 := HC.out.c5
  have cC6 := HC.out.c6
  have cC7 := HC.out.c7
  have cB0 := HB.out.c0
  have cB1 := HB.out.c1
  have cB2 := HB.out.c2
  go_wp2_with fail
  refine (KR.out _).mono ?_
  rintro e w6 ⟨rfl, hb6⟩
  clear HB
  have HC := Lib.hid (HC.out.callee hb6)
  have HG := Lib.hid (HG.out.below hb6)
  have HH6 := Lib.hid (HH5.out.trans (hb6.mono HH5.out.size))
  clear hb6
  have cC0 := HC.out.c0
  have cC1 := HC.out.c1
  have cC2 := HC.out.c2
  have cC3 := HC.out.c3
  have cC4 := HC.out.c4
  have cC5 := HC.out.c5
  have cC6 := HC.out.c6
  have cC7 := HC.out.c7
  go_wp2_with fail
  refine (KT.out _).mono ?_
  rintro e w7 ⟨rfl, hb7⟩
  have HC := Lib.hid (HC.out.callee hb7)
  have HG := Lib.hid (HG.out.below hb7)
  have HH7 := Lib.hid (HH6.out.trans (hb7.mono HH6.out.size))
  clear hb7
  have cC0 := HC.out.c0
  have cC1 := HC.out.c1
  have cC2 := HC.out.c2
  have cC3 := HC.out.c3
  have cC4 := HC.out.c4
  have cC5 := HC.out.c5
  have cC6 := HC.out.c6
  have cC7 := HC.out.c7
  go_wp2_with fail
  refine (alive_any _ HG.out).mono ?_
  rintro e w8 ⟨rfl, hb8⟩
  have HC := Lib.hid (HC.out.callee hb8)
  have HG := Lib.hid (HG.out.below hb8)
  have HH8 := Lib.hid (HH7.out.trans (hb8.mono HH7.out.size))
  clear hb8
  go_wp2
  go_ret
  exact ⟨rfl, HH8.out⟩
set_option maxHeartbeats 8000000 in
set_option maxRecDepth 100000 in
theorem w1_chal (x : Cas) (w : World) (hs : x.s.size ≤ 4096) (hv : x.v.size ≤ 4096) (hn : x.n.size ≤ 4096) (hd : x.p.d.size ≤ 4096) (hl : lgB x = false) (hG : Globs w) (h1 : chE x.v x.n ≠ 0) (h2 : laE x.n = 0) (h3 : rdE x.p.c x.p.d = 0) (h5 : x.p.c = 1) :
    Calls Tryd.prog 4 #[.agg #[.int .u8 x.id.toNat, .string x.s, .string x.v, .string x.n, .bool x.b, .int .u8 x.p.c.toNat, .int .u8 x.p.i.toNat, .string x.p.d]] w fun e w' => e = .returned (.bool true) ∧ Below w.heap.size w w' := by
  have HG := Lib.hid hG; clear hG
  have HH0 := Lib.hid (Below.refl w.heap.size w)
  have HC := Lib.hid (cs_new w x)
  have HH0 := Lib.hid (HH0.out.alloc HH0.out.size _ : Below w.heap.size w (w.alloc (.cells #[.int .u8 x.id.toNat, .string x.s, .string x.v, .string x.n, .bool x.b, .int .u8 x.p.c.toNat, .int .u8 x.p.i.toNat, .string x.p.d] 25)))
  have HG := Lib.hid (HG.out.below HH0.out)
  have KLg := Lib.hid (fun W => long_any x W (by omega) (by omega) (by omega) (by omega))
  rw [hl] at KLg
  have KQ := Lib.hid (fun w => challenge_any x.id x.v x.n w (by unfold maxLen; omega) (by omega))
  have KU := Lib.hid (fun w => answer_any x.id x.b x.n w (by omega))
  rw [pkV_no h1] at KQ
  have hE1 : (chE x.v x.n == 0) = false := by rw [beq_eq_false_iff_ne]; exact h1
  generalize chE x.v x.n = E1 at *
  have KN := Lib.hid (fun w => answered_any (if x.b = true then 3 else 4) x.id x.n w (by unfold maxLen; omega))
  rw [anV_ok (cc_an h2), cc_three] at KN
  rw [pkV_ok h2] at KU
  generalize (if x.b = true then (3 : UInt8) else 4) = cc at *
  have KR := Lib.hid (fun w => read_any x.p.c x.p.i x.p.d w (by unfold maxLen; omega))
  have KT := Lib.hid (fun w => answered_any x.p.c x.p.i x.p.d w (by unfold maxLen; omega))
  obtain ⟨hcc, hch, hvn, hs1, hs2, hs3⟩ := read_put h3
  have h4 : anE x.p.c x.p.d = 8 := an_type _ (fun e => by rcases hcc with e1 | e1 <;> rw [e1] at e <;> revert e <;> decide)
  rw [anV_bad h4 (by decide)] at KT
  unfold rdV at KR
  rw [h3] at KR
  have KP := Lib.hid (fun w => challenge_any x.p.i (rdA x.p.c x.p.d) (rdB x.p.c x.p.d) w (by unfold maxLen; omega) (by omega))
  rw [show pkV (chE (rdA x.p.c x.p.d) (rdB x.p.c x.p.d)) 1 x.p.i (vn (rdA x.p.c x.p.d) (rdB x.p.c x.p.d)) = .tuple #[.agg #[.int .u8 x.p.c.toNat, .int .u8 x.p.i.toNat, .string x.p.d], .int .i64 0] from by rw [pkV_ok hch, hvn, show (1 : UInt8) = x.p.c from h5.symm]] at KP
  have hc1 : ((x.p.c.toNat : Int) == 1) = true := by rw [h5]; rfl
  have hq0 : ∀ W, (Op.equalIn 10000 23 (.agg #[.int .u8 x.p.c.toNat, .int .u8 x.p.i.toNat, .string x.p.d]) (.agg #[.int .u8 x.p.c.toNat, .int .u8 x.p.i.toNat, .string x.p.d])).run Tryd.prog W = .ok true W := pk_eq (c := x.p.c) (c' := x.p.c) (i := x.p.i) (i' := x.p.i) (s := x.p.d) (s' := x.p.d) (pk_same _ _ _)
  have hq1 : ∀ W, (binOp .eql 23 (.agg #[.int .u8 x.p.c.toNat, .int .u8 x.p.i.toNat, .string x.p.d]) (.agg #[.int .u8 x.p.c.toNat, .int .u8 x.p.i.toNat, .string x.p.d])).run Tryd.prog W = .ok (.bool true) W := pk_eql (c := x.p.c) (c' := x.p.c) (i := x.p.i) (i' := x.p.i) (s := x.p.d) (s' := x.p.d) (pk_same _ _ _)
  have hq2 : ∀ W, (binOp .neq 23 (.agg #[.int .u8 x.p.c.toNat, .int .u8 x.p.i.toNat, .string x.p.d]) (.agg #[.int .u8 x.p.c.toNat, .int .u8 x.p.i.toNat, .string x.p.d])).run Tryd.prog W = .ok (.bool false) W := pk_neq (c := x.p.c) (c' := x.p.c) (i := x.p.i) (i' := x.p.i) (s := x.p.d) (s' := x.p.d) (pk_same _ _ _)
  generalize rdA x.p.c x.p.d = y at *
  generalize rdB x.p.c x.p.d = z at *
  clear hch hvn hs1 hs2 hs3
  have f1 := beq_self x.v
  have f2 := beq_self x.n
  have f3 : ((x.id.toNat : Int) == x.id.toNat) = true := by simp
  have f4 : (x.b == x.b) = true := by simp
  have f5 := emp
  clear h1 h2
  clear h3 h4 h5 hcc
  go_enter Tryd.func4, Tryd.ntmps4
  have cC0 := HC.out.c0
  have cC1 := HC.out.c1
  have cC2 := HC.out.c2
  have cC3 := HC.out.c3
  have cC4 := HC.out.c4
  have cC5 := HC.out.c5
  have cC6 := HC.out.c6
  have cC7 := HC.out.c7
  go_wp2_with fail
  refine (KLg.out _).mono ?_
  rintro e w1 ⟨rfl, hb1⟩
  have HC := Lib.hid (HC.out.callee hb1)
  have HG := Lib.hid (HG.out.below hb1)
  have HH1 := Lib.hid (HH0.out.trans (hb1.mono HH0.out.size))
  clear hb1
  have cC0 := HC.out.c0
  have cC1 := HC.out.c1
  have cC2 := HC.out.c2
  have cC3 := HC.out.c3
  have cC4 := HC.out.c4
  have cC5 := HC.out.c5
  have cC6 := HC.out.c6
  have cC7 := HC.out.c7
  go_wp2_with fail
  refine (KQ.out _).mono ?_
  rintro e w2 ⟨rfl, hb2⟩
  have HC := Lib.hid (HC.out.callee hb2)
  have HG := Lib.hid (HG.out.below hb2)
  have HH2 := Lib.hid (HH1.out.trans (hb2.mono HH1.out.size))
  clear hb2
  have HC := Lib.hid (HC.out.alloc _ : CsAt (w2.alloc (.cells #[.int .u8 0, .int .u8 0, .string (bOf [])] 23)) w.heap.size x)
  have HA := Lib.hid (at_new w2 (0 : UInt8) (0 : UInt8) (bOf []) : At (w2.alloc (.cells #[.int .u8 0, .int .u8 0, .string (bOf [])] 23)) w2.heap.size (0 : UInt8) (0 : UInt8) (bOf []))
  have HG := Lib.hid (HG.out.below ((Below.refl w2.heap.size w2).alloc (Nat.le_refl _) _) : Globs (w2.alloc (.cells #[.int .u8 0, .int .u8 0, .string (bOf [])] 23)))
  have HH2 := Lib.hid (HH2.out.alloc HH2.out.size _ : Below w.heap.size w (w2.alloc (.cells #[.int .u8 0, .int .u8 0, .string (bOf [])] 23)))
  have cC0 := HC.out.c0
  have cC1 := HC.out.c1
  have cC2 := HC.out.c2
  have cC3 := HC.out.c3
  have cC4 := HC.out.c4
  have cC5 := HC.out.c5
  have cC6 := HC.out.c6
  have cC7 := HC.out.c7
  go_wp2_with fail
  refine (KU.out _).mono ?_
  rintro e w3 ⟨rfl, hb3⟩
  clear HA
  have HC := Lib.hid (HC.out.callee hb3)
  have HG := Lib.hid (HG.out.below hb3)
  have HH3 := Lib.hid (HH2.out.trans (hb3.mono HH2.out.size))
  clear hb3
  have HC := Lib.hid (HC.out.alloc _ : CsAt (w3.alloc (.cells #[.int .u8 cc.toNat, .int .u8 x.id.toNat, .string x.n] 23)) w.heap.size x)
  have HB := Lib.hid (at_new w3 cc x.id x.n : At (w3.alloc (.cells #[.int .u8 cc.toNat, .int .u8 x.id.toNat, .string x.n] 23)) w3.heap.size cc x.id x.n)
  have HG := Lib.hid (HG.out.below ((Below.refl w3.heap.size w3).alloc (Nat.le_refl _) _) : Globs (w3.alloc (.cells #[.int .u8 cc.toNat, .int .u8 x.id.toNat, .string x.n] 23)))
  have HH3 := Lib.hid (HH3.out.alloc HH3.out.size _ : Below w.heap.size w (w3.alloc (.cells #[.int .u8 cc.toNat, .int .u8 x.id.toNat, .string x.n] 23)))
  have cC0 := HC.out.c0
  have cC1 := HC.out.c1
  have cC2 := HC.out.c2
  have cC3 := HC.out.c3
  have cC4 := HC.out.c4
  have cC5 := HC.out.c5
  have cC6 := HC.out.c6
  have cC7 := HC.out.c7
  have cB0 := HB.out.c0
  have cB1 := HB.out.c1
  have cB2 := HB.out.c2
  go_wp2_with fail
  refine (KN.out _).mono ?_
  rintro e w4 ⟨rfl, hb4⟩
  have HC := Lib.hid (HC.out.callee hb4)
  have HB := Lib.hid (HB.out.callee hb4)
  have HG := Lib.hid (HG.out.below hb4)
  have HH4 := Lib.hid (HH3.out.trans (hb4.mono HH3.out.size))
  clear hb4
  have cC0 := HC.out.c0
  have cC1 := HC.out.c1
  have cC2 := HC.out.c2
  have cC3 := HC.out.c3
  have cC4 := HC.out.c4
  have cC5 := HC.out.c5
  have cC6 := HC.out.c6
  have cC7 := HC.out.c7
  have cB0 := HB.out.c0
  have cB1 := HB.out.c1
  have cB2 := HB.out.c2
  go_wp2_with fail
  refine (KR.out _).mono ?_
  rintro e w5 ⟨rfl, hb5⟩
  clear HB
  have HC := Lib.hid (HC.out.callee hb5)
  have HG := Lib.hid (HG.out.below hb5)
  have HH5 := Lib.hid (HH4.out.trans (hb5.mono HH4.out.size))
  clear hb5
  have cC0 := HC.out.c0
  have cC1 := HC.out.c1
  have cC2 := HC.out.c2
  have cC3 := HC.out.c3
  have cC4 := HC.out.c4
  have cC5 := HC.out.c5
  have cC6 := HC.out.c6
  have cC7 := HC.out.c7
  go_wp2_with fail
  refine (KP.out _).mono ?_
  rintro e w6 ⟨rfl, hb6⟩
  have HC := Lib.hid (HC.out.callee hb6)
  have HG := Lib.hid (HG.out.below hb6)
  have HH6 := Lib.hid (HH5.out.trans (hb6.mono HH5.out.size))
  clear hb6
  have HC := Lib.hid (HC.out.alloc _ : CsAt (w6.alloc (.cells #[.int .u8 x.p.c.toNat, .int .u8 x.p.i.toNat, .string x.p.d] 23)) w.heap.size x)
  have HE := Lib.hid (at_new w6 x.p.c x.p.i x.p.d : At (w6.alloc (.cells #[.int .u8 x.p.c.toNat, .int .u8 x.p.i.toNat, .string x.p.d] 23)) w6.heap.size x.p.c x.p.i x.p.d)
  have HG := Lib.hid (HG.out.below ((Below.refl w6.heap.size w6).alloc (Nat.le_refl _) _) : Globs (w6.alloc (.cells #[.int .u8 x.p.c.toNat, .int .u8 x.p.i.toNat, .string x.p.d] 23)))
  have HH6 := Lib.hid (HH6.out.alloc HH6.out.size _ : Below w.heap.size w (w6.alloc (.cells #[.int .u8 x.p.c.toNat, .int .u8 x.p.i.toNat, .string x.p.d] 23)))
  have cC0 := HC.out.c0
  have cC1 := HC.out.c1
  have cC2 := HC.out.c2
  have cC3 := HC.out.c3
  have cC4 := HC.out.c4
  have cC5 := HC.out.c5
  have cC6 := HC.out.c6
  have cC7 := HC.out.c7
  have cE0 := HE.out.c0
  have cE1 := HE.out.c1
  have cE2 := HE.out.c2
  go_wp2_with fail
  refine (KT.out _).mono ?_
  rintro e w7 ⟨rfl, hb7⟩
  clear HE
  have HC := Lib.hid (HC.out.callee hb7)
  have HG := Lib.hid (HG.out.below hb7)
  have HH7 := Lib.hid (HH6.out.trans (hb7.mono HH6.out.size))
  clear hb7
  have cC0 := HC.out.c0
  have cC1 := HC.out.c1
  have cC2 := HC.out.c2
  have cC3 := HC.out.c3
  have cC4 := HC.out.c4
  have cC5 := HC.out.c5
  have cC6 := HC.out.c6
  have cC7 := HC.out.c7
  go_wp2_with fail
  refine (alive_any _ HG.out).mono ?_
  rintro e w8 ⟨rfl, hb8⟩
  have HC := Lib.hid (HC.out.callee hb8)
  have HG := Lib.hid (HG.out.below hb8)
  have HH8 := Lib.hid (HH7.out.trans (hb8.mono HH7.out.size))
  clear hb8
  go_wp2
  go_ret
  exact ⟨rfl, HH8.out⟩
set_option maxHeartbeats 8000000 in
set_option maxRecDepth 100000 in
theorem w1_resp (x : Cas) (w : World) (hs : x.s.size ≤ 4096) (hv : x.v.size ≤ 4096) (hn : x.n.size ≤ 4096) (hd : x.p.d.size ≤ 4096) (hl : lgB x = false) (hG : Globs w) (h1 : chE x.v x.n ≠ 0) (h2 : laE x.n = 0) (h3 : rdE x.p.c x.p.d = 0) (h5 : x.p.c ≠ 1) :
    Calls Tryd.prog 4 #[.agg #[.int .u8 x.id.toNat, .string x.s, .string x.v, .string x.n, .bool x.b, .int .u8 x.p.c.toNat, .int .u8 x.p.i.toNat, .string x.p.d]] w fun e w' => e = .returned (.bool true) ∧ Below w.heap.size w w' := by
  have HG := Lib.hid hG; clear hG
  have HH0 := Lib.hid (Below.refl w.heap.size w)
  have HC := Lib.hid (cs_new w x)
  have HH0 := Lib.hid (HH0.out.alloc HH0.out.size _ : Below w.heap.size w (w.alloc (.cells #[.int .u8 x.id.toNat, .string x.s, .string x.v, .string x.n, .bool x.b, .int .u8 x.p.c.toNat, .int .u8 x.p.i.toNat, .string x.p.d] 25)))
  have HG := Lib.hid (HG.out.below HH0.out)
  have KLg := Lib.hid (fun W => long_any x W (by omega) (by omega) (by omega) (by omega))
  rw [hl] at KLg
  have KQ := Lib.hid (fun w => challenge_any x.id x.v x.n w (by unfold maxLen; omega) (by omega))
  have KU := Lib.hid (fun w => answer_any x.id x.b x.n w (by omega))
  rw [pkV_no h1] at KQ
  have hE1 : (chE x.v x.n == 0) = false := by rw [beq_eq_false_iff_ne]; exact h1
  generalize chE x.v x.n = E1 at *
  have KN := Lib.hid (fun w => answered_any (if x.b = true then 3 else 4) x.id x.n w (by unfold maxLen; omega))
  rw [anV_ok (cc_an h2), cc_three] at KN
  rw [pkV_ok h2] at KU
  generalize (if x.b = true then (3 : UInt8) else 4) = cc at *
  have KR := Lib.hid (fun w => read_any x.p.c x.p.i x.p.d w (by unfold maxLen; omega))
  have KT := Lib.hid (fun w => answered_any x.p.c x.p.i x.p.d w (by unfold maxLen; omega))
  obtain ⟨hcc, hch, hvn, hs1, hs2, hs3⟩ := read_put h3
  have h4 : anE x.p.c x.p.d = 8 := an_type _ (fun e => by rcases hcc with e1 | e1 <;> rw [e1] at e <;> revert e <;> decide)
  rw [anV_bad h4 (by decide)] at KT
  unfold rdV at KR
  rw [h3] at KR
  have hc1 : ((x.p.c.toNat : Int) == 1) = false := by rw [beq_eq_false_iff_ne]; intro e; exact h5 (UInt8.toNat_inj.1 (by show _ = 1; omega))
  generalize rdA x.p.c x.p.d = y at *
  generalize rdB x.p.c x.p.d = z at *
  clear hch hvn hs1 hs2 hs3
  have f1 := beq_self x.v
  have f2 := beq_self x.n
  have f3 : ((x.id.toNat : Int) == x.id.toNat) = true := by simp
  have f4 : (x.b == x.b) = true := by simp
  have f5 := emp
  clear h1 h2
  clear h3 h4 h5 hcc
  go_enter Tryd.func4, Tryd.ntmps4
  have cC0 := HC.out.c0
  have cC1 := HC.out.c1
  have cC2 := HC.out.c2
  have cC3 := HC.out.c3
  have cC4 := HC.out.c4
  have cC5 := HC.out.c5
  have cC6 := HC.out.c6
  have cC7 := HC.out.c7
  go_wp2_with fail
  refine (KLg.out _).mono ?_
  rintro e w1 ⟨rfl, hb1⟩
  have HC := Lib.hid (HC.out.callee hb1)
  have HG := Lib.hid (HG.out.below hb1)
  have HH1 := Lib.hid (HH0.out.trans (hb1.mono HH0.out.size))
  clear hb1
  have cC0 := HC.out.c0
  have cC1 := HC.out.c1
  have cC2 := HC.out.c2
  have cC3 := HC.out.c3
  have cC4 := HC.out.c4
  have cC5 := HC.out.c5
  have cC6 := HC.out.c6
  have cC7 := HC.out.c7
  go_wp2_with fail
  refine (KQ.out _).mono ?_
  rintro e w2 ⟨rfl, hb2⟩
  have HC := Lib.hid (HC.out.callee hb2)
  have HG := Lib.hid (HG.out.below hb2)
  have HH2 := Lib.hid (HH1.out.trans (hb2.mono HH1.out.size))
  clear hb2
  have HC := Lib.hid (HC.out.alloc _ : CsAt (w2.alloc (.cells #[.int .u8 0, .int .u8 0, .string (bOf [])] 23)) w.heap.size x)
  have HA := Lib.hid (at_new w2 (0 : UInt8) (0 : UInt8) (bOf []) : At (w2.alloc (.cells #[.int .u8 0, .int .u8 0, .string (bOf [])] 23)) w2.heap.size (0 : UInt8) (0 : UInt8) (bOf []))
  have HG := Lib.hid (HG.out.below ((Below.refl w2.heap.size w2).alloc (Nat.le_refl _) _) : Globs (w2.alloc (.cells #[.int .u8 0, .int .u8 0, .string (bOf [])] 23)))
  have HH2 := Lib.hid (HH2.out.alloc HH2.out.size _ : Below w.heap.size w (w2.alloc (.cells #[.int .u8 0, .int .u8 0, .string (bOf [])] 23)))
  have cC0 := HC.out.c0
  have cC1 := HC.out.c1
  have cC2 := HC.out.c2
  have cC3 := HC.out.c3
  have cC4 := HC.out.c4
  have cC5 := HC.out.c5
  have cC6 := HC.out.c6
  have cC7 := HC.out.c7
  go_wp2_with fail
  refine (KU.out _).mono ?_
  rintro e w3 ⟨rfl, hb3⟩
  clear HA
  have HC := Lib.hid (HC.out.callee hb3)
  have HG := Lib.hid (HG.out.below hb3)
  have HH3 := Lib.hid (HH2.out.trans (hb3.mono HH2.out.size))
  clear hb3
  have HC := Lib.hid (HC.out.alloc _ : CsAt (w3.alloc (.cells #[.int .u8 cc.toNat, .int .u8 x.id.toNat, .string x.n] 23)) w.heap.size x)
  have HB := Lib.hid (at_new w3 cc x.id x.n : At (w3.alloc (.cells #[.int .u8 cc.toNat, .int .u8 x.id.toNat, .string x.n] 23)) w3.heap.size cc x.id x.n)
  have HG := Lib.hid (HG.out.below ((Below.refl w3.heap.size w3).alloc (Nat.le_refl _) _) : Globs (w3.alloc (.cells #[.int .u8 cc.toNat, .int .u8 x.id.toNat, .string x.n] 23)))
  have HH3 := Lib.hid (HH3.out.alloc HH3.out.size _ : Below w.heap.size w (w3.alloc (.cells #[.int .u8 cc.toNat, .int .u8 x.id.toNat, .string x.n] 23)))
  have cC0 := HC.out.c0
  have cC1 := HC.out.c1
  have cC2 := HC.out.c2
  have cC3 := HC.out.c3
  have cC4 := HC.out.c4
  have cC5 := HC.out.c5
  have cC6 := HC.out.c6
  have cC7 := HC.out.c7
  have cB0 := HB.out.c0
  have cB1 := HB.out.c1
  have cB2 := HB.out.c2
  go_wp2_with fail
  refine (KN.out _).mono ?_
  rintro e w4 ⟨rfl, hb4⟩
  have HC := Lib.hid (HC.out.callee hb4)
  have HB := Lib.hid (HB.out.callee hb4)
  have HG := Lib.hid (HG.out.below hb4)
  have HH4 := Lib.hid (HH3.out.trans (hb4.mono HH3.out.size))
  clear hb4
  have cC0 := HC.out.c0
  have cC1 := HC.out.c1
  have cC2 := HC.out.c2
  have cC3 := HC.out.c3
  have cC4 := HC.out.c4
  have cC5 := HC.out.c5
  have cC6 := HC.out.c6
  have cC7 := HC.out.c7
  have cB0 := HB.out.c0
  have cB1 := HB.out.c1
  have cB2 := HB.out.c2
  go_wp2_with fail
  refine (KR.out _).mono ?_
  rintro e w5 ⟨rfl, hb5⟩
  clear HB
  have HC := Lib.hid (HC.out.callee hb5)
  have HG := Lib.hid (HG.out.below hb5)
  have HH5 := Lib.hid (HH4.out.trans (hb5.mono HH4.out.size))
  clear hb5
  have cC0 := HC.out.c0
  have cC1 := HC.out.c1
  have cC2 := HC.out.c2
  have cC3 := HC.out.c3
  have cC4 := HC.out.c4
  have cC5 := HC.out.c5
  have cC6 := HC.out.c6
  have cC7 := HC.out.c7
  go_wp2_with fail
  refine (KT.out _).mono ?_
  rintro e w6 ⟨rfl, hb6⟩
  have HC := Lib.hid (HC.out.callee hb6)
  have HG := Lib.hid (HG.out.below hb6)
  have HH6 := Lib.hid (HH5.out.trans (hb6.mono HH5.out.size))
  clear hb6
  have cC0 := HC.out.c0
  have cC1 := HC.out.c1
  have cC2 := HC.out.c2
  have cC3 := HC.out.c3
  have cC4 := HC.out.c4
  have cC5 := HC.out.c5
  have cC6 := HC.out.c6
  have cC7 := HC.out.c7
  go_wp2_with fail
  refine (alive_any _ HG.out).mono ?_
  rintro e w7 ⟨rfl, hb7⟩
  have HC := Lib.hid (HC.out.callee hb7)
  have HG := Lib.hid (HG.out.below hb7)
  have HH7 := Lib.hid (HH6.out.trans (hb7.mono HH6.out.size))
  clear hb7
  go_wp2
  go_ret
  exact ⟨rfl, HH7.out⟩
set_option maxHeartbeats 8000000 in
set_option maxRecDepth 100000 in
theorem w1_ans (x : Cas) (w : World) (hs : x.s.size ≤ 4096) (hv : x.v.size ≤ 4096) (hn : x.n.size ≤ 4096) (hd : x.p.d.size ≤ 4096) (hl : lgB x = false) (hG : Globs w) (h1 : chE x.v x.n ≠ 0) (h2 : laE x.n = 0) (h4 : anE x.p.c x.p.d = 0) :
    Calls Tryd.prog 4 #[.agg #[.int .u8 x.id.toNat, .string x.s, .string x.v, .string x.n, .bool x.b, .int .u8 x.p.c.toNat, .int .u8 x.p.i.toNat, .string x.p.d]] w fun e w' => e = .returned (.bool true) ∧ Below w.heap.size w w' := by
  have HG := Lib.hid hG; clear hG
  have HH0 := Lib.hid (Below.refl w.heap.size w)
  have HC := Lib.hid (cs_new w x)
  have HH0 := Lib.hid (HH0.out.alloc HH0.out.size _ : Below w.heap.size w (w.alloc (.cells #[.int .u8 x.id.toNat, .string x.s, .string x.v, .string x.n, .bool x.b, .int .u8 x.p.c.toNat, .int .u8 x.p.i.toNat, .string x.p.d] 25)))
  have HG := Lib.hid (HG.out.below HH0.out)
  have KLg := Lib.hid (fun W => long_any x W (by omega) (by omega) (by omega) (by omega))
  rw [hl] at KLg
  have KQ := Lib.hid (fun w => challenge_any x.id x.v x.n w (by unfold maxLen; omega) (by omega))
  have KU := Lib.hid (fun w => answer_any x.id x.b x.n w (by omega))
  rw [pkV_no h1] at KQ
  have hE1 : (chE x.v x.n == 0) = false := by rw [beq_eq_false_iff_ne]; exact h1
  generalize chE x.v x.n = E1 at *
  have KN := Lib.hid (fun w => answered_any (if x.b = true then 3 else 4) x.id x.n w (by unfold maxLen; omega))
  rw [anV_ok (cc_an h2), cc_three] at KN
  rw [pkV_ok h2] at KU
  generalize (if x.b = true then (3 : UInt8) else 4) = cc at *
  have KR := Lib.hid (fun w => read_any x.p.c x.p.i x.p.d w (by unfold maxLen; omega))
  have KT := Lib.hid (fun w => answered_any x.p.c x.p.i x.p.d w (by unfold maxLen; omega))
  have hw := an_put h4
  have h3 : rdE x.p.c x.p.d = 8 := rd_type _ (fun e => by rcases e with e | e <;> rw [e] at h4 <;> revert h4 <;> simp [anE])
  rw [rdV_bad h3 (by decide)] at KR
  unfold anV at KT
  rw [h4, hw.1] at KT
  have KP := Lib.hid (fun w => answer_any x.p.i (anW x.p.c x.p.d) x.p.d w (by omega))
  rw [pkV_ok hw.2.2.2, hw.2.2.1] at KP
  generalize anW x.p.c x.p.d = b5 at *
  clear hw
  have hq0 : ∀ W, (Op.equalIn 10000 23 (.agg #[.int .u8 x.p.c.toNat, .int .u8 x.p.i.toNat, .string x.p.d]) (.agg #[.int .u8 x.p.c.toNat, .int .u8 x.p.i.toNat, .string x.p.d])).run Tryd.prog W = .ok true W := pk_eq (c := x.p.c) (c' := x.p.c) (i := x.p.i) (i' := x.p.i) (s := x.p.d) (s' := x.p.d) (pk_same _ _ _)
  have hq1 : ∀ W, (binOp .eql 23 (.agg #[.int .u8 x.p.c.toNat, .int .u8 x.p.i.toNat, .string x.p.d]) (.agg #[.int .u8 x.p.c.toNat, .int .u8 x.p.i.toNat, .string x.p.d])).run Tryd.prog W = .ok (.bool true) W := pk_eql (c := x.p.c) (c' := x.p.c) (i := x.p.i) (i' := x.p.i) (s := x.p.d) (s' := x.p.d) (pk_same _ _ _)
  have hq2 : ∀ W, (binOp .neq 23 (.agg #[.int .u8 x.p.c.toNat, .int .u8 x.p.i.toNat, .string x.p.d]) (.agg #[.int .u8 x.p.c.toNat, .int .u8 x.p.i.toNat, .string x.p.d])).run Tryd.prog W = .ok (.bool false) W := pk_neq (c := x.p.c) (c' := x.p.c) (i := x.p.i) (i' := x.p.i) (s := x.p.d) (s' := x.p.d) (pk_same _ _ _)
  have f1 := beq_self x.v
  have f2 := beq_self x.n
  have f3 : ((x.id.toNat : Int) == x.id.toNat) = true := by simp
  have f4 : (x.b == x.b) = true := by simp
  have f5 := emp
  clear h1 h2
  clear h3 h4
  go_enter Tryd.func4, Tryd.ntmps4
  have cC0 := HC.out.c0
  have cC1 := HC.out.c1
  have cC2 := HC.out.c2
  have cC3 := HC.out.c3
  have cC4 := HC.out.c4
  have cC5 := HC.out.c5
  have cC6 := HC.out.c6
  have cC7 := HC.out.c7
  go_wp2_with fail
  refine (KLg.out _).mono ?_
  rintro e w1 ⟨rfl, hb1⟩
  have HC := Lib.hid (HC.out.callee hb1)
  have HG := Lib.hid (HG.out.below hb1)
  have HH1 := Lib.hid (HH0.out.trans (hb1.mono HH0.out.size))
  clear hb1
  have cC0 := HC.out.c0
  have cC1 := HC.out.c1
  have cC2 := HC.out.c2
  have cC3 := HC.out.c3
  have cC4 := HC.out.c4
  have cC5 := HC.out.c5
  have cC6 := HC.out.c6
  have cC7 := HC.out.c7
  go_wp2_with fail
  refine (KQ.out _).mono ?_
  rintro e w2 ⟨rfl, hb2⟩
  have HC := Lib.hid (HC.out.callee hb2)
  have HG := Lib.hid (HG.out.below hb2)
  have HH2 := Lib.hid (HH1.out.trans (hb2.mono HH1.out.size))
  clear hb2
  have HC := Lib.hid (HC.out.alloc _ : CsAt (w2.alloc (.cells #[.int .u8 0, .int .u8 0, .string (bOf [])] 23)) w.heap.size x)
  have HA := Lib.hid (at_new w2 (0 : UInt8) (0 : UInt8) (bOf []) : At (w2.alloc (.cells #[.int .u8 0, .int .u8 0, .string (bOf [])] 23)) w2.heap.size (0 : UInt8) (0 : UInt8) (bOf []))
  have HG := Lib.hid (HG.out.below ((Below.refl w2.heap.size w2).alloc (Nat.le_refl _) _) : Globs (w2.alloc (.cells #[.int .u8 0, .int .u8 0, .string (bOf [])] 23)))
  have HH2 := Lib.hid (HH2.out.alloc HH2.out.size _ : Below w.heap.size w (w2.alloc (.cells #[.int .u8 0, .int .u8 0, .string (bOf [])] 23)))
  have cC0 := HC.out.c0
  have cC1 := HC.out.c1
  have cC2 := HC.out.c2
  have cC3 := HC.out.c3
  have cC4 := HC.out.c4
  have cC5 := HC.out.c5
  have cC6 := HC.out.c6
  have cC7 := HC.out.c7
  go_wp2_with fail
  refine (KU.out _).mono ?_
  rintro e w3 ⟨rfl, hb3⟩
  clear HA
  have HC := Lib.hid (HC.out.callee hb3)
  have HG := Lib.hid (HG.out.below hb3)
  have HH3 := Lib.hid (HH2.out.trans (hb3.mono HH2.out.size))
  clear hb3
  have HC := Lib.hid (HC.out.alloc _ : CsAt (w3.alloc (.cells #[.int .u8 cc.toNat, .int .u8 x.id.toNat, .string x.n] 23)) w.heap.size x)
  have HB := Lib.hid (at_new w3 cc x.id x.n : At (w3.alloc (.cells #[.int .u8 cc.toNat, .int .u8 x.id.toNat, .string x.n] 23)) w3.heap.size cc x.id x.n)
  have HG := Lib.hid (HG.out.below ((Below.refl w3.heap.size w3).alloc (Nat.le_refl _) _) : Globs (w3.alloc (.cells #[.int .u8 cc.toNat, .int .u8 x.id.toNat, .string x.n] 23)))
  have HH3 := Lib.hid (HH3.out.alloc HH3.out.size _ : Below w.heap.size w (w3.alloc (.cells #[.int .u8 cc.toNat, .int .u8 x.id.toNat, .string x.n] 23)))
  have cC0 := HC.out.c0
  have cC1 := HC.out.c1
  have cC2 := HC.out.c2
  have cC3 := HC.out.c3
  have cC4 := HC.out.c4
  have cC5 := HC.out.c5
  have cC6 := HC.out.c6
  have cC7 := HC.out.c7
  have cB0 := HB.out.c0
  have cB1 := HB.out.c1
  have cB2 := HB.out.c2
  go_wp2_with fail
  refine (KN.out _).mono ?_
  rintro e w4 ⟨rfl, hb4⟩
  have HC := Lib.hid (HC.out.callee hb4)
  have HB := Lib.hid (HB.out.callee hb4)
  have HG := Lib.hid (HG.out.below hb4)
  have HH4 := Lib.hid (HH3.out.trans (hb4.mono HH3.out.size))
  clear hb4
  have cC0 := HC.out.c0
  have cC1 := HC.out.c1
  have cC2 := HC.out.c2
  have cC3 := HC.out.c3
  have cC4 := HC.out.c4
  have cC5 := HC.out.c5
  have cC6 := HC.out.c6
  have cC7 := HC.out.c7
  have cB0 := HB.out.c0
  have cB1 := HB.out.c1
  have cB2 := HB.out.c2
  go_wp2_with fail
  refine (KR.out _).mono ?_
  rintro e w5 ⟨rfl, hb5⟩
  clear HB
  have HC := Lib.hid (HC.out.callee hb5)
  have HG := Lib.hid (HG.out.below hb5)
  have HH5 := Lib.hid (HH4.out.trans (hb5.mono HH4.out.size))
  clear hb5
  have cC0 := HC.out.c0
  have cC1 := HC.out.c1
  have cC2 := HC.out.c2
  have cC3 := HC.out.c3
  have cC4 := HC.out.c4
  have cC5 := HC.out.c5
  have cC6 := HC.out.c6
  have cC7 := HC.out.c7
  go_wp2_with fail
  refine (KT.out _).mono ?_
  rintro e w6 ⟨rfl, hb6⟩
  have HC := Lib.hid (HC.out.callee hb6)
  have HG := Lib.hid (HG.out.below hb6)
  have HH6 := Lib.hid (HH5.out.trans (hb6.mono HH5.out.size))
  clear hb6
  have cC0 := HC.out.c0
  have cC1 := HC.out.c1
  have cC2 := HC.out.c2
  have cC3 := HC.out.c3
  have cC4 := HC.out.c4
  have cC5 := HC.out.c5
  have cC6 := HC.out.c6
  have cC7 := HC.out.c7
  go_wp2_with fail
  refine (KP.out _).mono ?_
  rintro e w7 ⟨rfl, hb7⟩
  have HC := Lib.hid (HC.out.callee hb7)
  have HG := Lib.hid (HG.out.below hb7)
  have HH7 := Lib.hid (HH6.out.trans (hb7.mono HH6.out.size))
  clear hb7
  have HC := Lib.hid (HC.out.alloc _ : CsAt (w7.alloc (.cells #[.int .u8 x.p.c.toNat, .int .u8 x.p.i.toNat, .string x.p.d] 23)) w.heap.size x)
  have HF := Lib.hid (at_new w7 x.p.c x.p.i x.p.d : At (w7.alloc (.cells #[.int .u8 x.p.c.toNat, .int .u8 x.p.i.toNat, .string x.p.d] 23)) w7.heap.size x.p.c x.p.i x.p.d)
  have HG := Lib.hid (HG.out.below ((Below.refl w7.heap.size w7).alloc (Nat.le_refl _) _) : Globs (w7.alloc (.cells #[.int .u8 x.p.c.toNat, .int .u8 x.p.i.toNat, .string x.p.d] 23)))
  have HH7 := Lib.hid (HH7.out.alloc HH7.out.size _ : Below w.heap.size w (w7.alloc (.cells #[.int .u8 x.p.c.toNat, .int .u8 x.p.i.toNat, .string x.p.d] 23)))
  have cC0 := HC.out.c0
  have cC1 := HC.out.c1
  have cC2 := HC.out.c2
  have cC3 := HC.out.c3
  have cC4 := HC.out.c4
  have cC5 := HC.out.c5
  have cC6 := HC.out.c6
  have cC7 := HC.out.c7
  have cF0 := HF.out.c0
  have cF1 := HF.out.c1
  have cF2 := HF.out.c2
  go_wp2_with fail
  refine (alive_any _ HG.out).mono ?_
  rintro e w8 ⟨rfl, hb8⟩
  clear HF
  have HC := Lib.hid (HC.out.callee hb8)
  have HG := Lib.hid (HG.out.below hb8)
  have HH8 := Lib.hid (HH7.out.trans (hb8.mono HH7.out.size))
  clear hb8
  go_wp2
  go_ret
  exact ⟨rfl, HH8.out⟩
set_option maxHeartbeats 8000000 in
set_option maxRecDepth 100000 in
theorem w1_none (x : Cas) (w : World) (hs : x.s.size ≤ 4096) (hv : x.v.size ≤ 4096) (hn : x.n.size ≤ 4096) (hd : x.p.d.size ≤ 4096) (hl : lgB x = false) (hG : Globs w) (h1 : chE x.v x.n ≠ 0) (h2 : laE x.n = 0) (h3 : rdE x.p.c x.p.d ≠ 0) (h4 : anE x.p.c x.p.d ≠ 0) :
    Calls Tryd.prog 4 #[.agg #[.int .u8 x.id.toNat, .string x.s, .string x.v, .string x.n, .bool x.b, .int .u8 x.p.c.toNat, .int .u8 x.p.i.toNat, .string x.p.d]] w fun e w' => e = .returned (.bool true) ∧ Below w.heap.size w w' := by
  have HG := Lib.hid hG; clear hG
  have HH0 := Lib.hid (Below.refl w.heap.size w)
  have HC := Lib.hid (cs_new w x)
  have HH0 := Lib.hid (HH0.out.alloc HH0.out.size _ : Below w.heap.size w (w.alloc (.cells #[.int .u8 x.id.toNat, .string x.s, .string x.v, .string x.n, .bool x.b, .int .u8 x.p.c.toNat, .int .u8 x.p.i.toNat, .string x.p.d] 25)))
  have HG := Lib.hid (HG.out.below HH0.out)
  have KLg := Lib.hid (fun W => long_any x W (by omega) (by omega) (by omega) (by omega))
  rw [hl] at KLg
  have KQ := Lib.hid (fun w => challenge_any x.id x.v x.n w (by unfold maxLen; omega) (by omega))
  have KU := Lib.hid (fun w => answer_any x.id x.b x.n w (by omega))
  rw [pkV_no h1] at KQ
  have hE1 : (chE x.v x.n == 0) = false := by rw [beq_eq_false_iff_ne]; exact h1
  generalize chE x.v x.n = E1 at *
  have KN := Lib.hid (fun w => answered_any (if x.b = true then 3 else 4) x.id x.n w (by unfold maxLen; omega))
  rw [anV_ok (cc_an h2), cc_three] at KN
  rw [pkV_ok h2] at KU
  generalize (if x.b = true then (3 : UInt8) else 4) = cc at *
  have KR := Lib.hid (fun w => read_any x.p.c x.p.i x.p.d w (by unfold maxLen; omega))
  have KT := Lib.hid (fun w => answered_any x.p.c x.p.i x.p.d w (by unfold maxLen; omega))
  have hE3 : (rdE x.p.c x.p.d == 0) = false := by rw [beq_eq_false_iff_ne]; exact h3
  have hE4 : (anE x.p.c x.p.d == 0) = false := by rw [beq_eq_false_iff_ne]; exact h4
  rw [rdV_bad rfl h3] at KR
  rw [anV_bad rfl h4] at KT
  generalize rdE x.p.c x.p.d = E3 at *
  generalize anE x.p.c x.p.d = E4 at *
  have f1 := beq_self x.v
  have f2 := beq_self x.n
  have f3 : ((x.id.toNat : Int) == x.id.toNat) = true := by simp
  have f4 : (x.b == x.b) = true := by simp
  have f5 := emp
  clear h1 h2
  clear h3 h4
  go_enter Tryd.func4, Tryd.ntmps4
  have cC0 := HC.out.c0
  have cC1 := HC.out.c1
  have cC2 := HC.out.c2
  have cC3 := HC.out.c3
  have cC4 := HC.out.c4
  have cC5 := HC.out.c5
  have cC6 := HC.out.c6
  have cC7 := HC.out.c7
  go_wp2_with fail
  refine (KLg.out _).mono ?_
  rintro e w1 ⟨rfl, hb1⟩
  have HC := Lib.hid (HC.out.callee hb1)
  have HG := Lib.hid (HG.out.below hb1)
  have HH1 := Lib.hid (HH0.out.trans (hb1.mono HH0.out.size))
  clear hb1
  have cC0 := HC.out.c0
  have cC1 := HC.out.c1
  have cC2 := HC.out.c2
  have cC3 := HC.out.c3
  have cC4 := HC.out.c4
  have cC5 := HC.out.c5
  have cC6 := HC.out.c6
  have cC7 := HC.out.c7
  go_wp2_with fail
  refine (KQ.out _).mono ?_
  rintro e w2 ⟨rfl, hb2⟩
  have HC := Lib.hid (HC.out.callee hb2)
  have HG := Lib.hid (HG.out.below hb2)
  have HH2 := Lib.hid (HH1.out.trans (hb2.mono HH1.out.size))
  clear hb2
  have HC := Lib.hid (HC.out.alloc _ : CsAt (w2.alloc (.cells #[.int .u8 0, .int .u8 0, .string (bOf [])] 23)) w.heap.size x)
  have HA := Lib.hid (at_new w2 (0 : UInt8) (0 : UInt8) (bOf []) : At (w2.alloc (.cells #[.int .u8 0, .int .u8 0, .string (bOf [])] 23)) w2.heap.size (0 : UInt8) (0 : UInt8) (bOf []))
  have HG := Lib.hid (HG.out.below ((Below.refl w2.heap.size w2).alloc (Nat.le_refl _) _) : Globs (w2.alloc (.cells #[.int .u8 0, .int .u8 0, .string (bOf [])] 23)))
  have HH2 := Lib.hid (HH2.out.alloc HH2.out.size _ : Below w.heap.size w (w2.alloc (.cells #[.int .u8 0, .int .u8 0, .string (bOf [])] 23)))
  have cC0 := HC.out.c0
  have cC1 := HC.out.c1
  have cC2 := HC.out.c2
  have cC3 := HC.out.c3
  have cC4 := HC.out.c4
  have cC5 := HC.out.c5
  have cC6 := HC.out.c6
  have cC7 := HC.out.c7
  go_wp2_with fail
  refine (KU.out _).mono ?_
  rintro e w3 ⟨rfl, hb3⟩
  clear HA
  have HC := Lib.hid (HC.out.callee hb3)
  have HG := Lib.hid (HG.out.below hb3)
  have HH3 := Lib.hid (HH2.out.trans (hb3.mono HH2.out.size))
  clear hb3
  have HC := Lib.hid (HC.out.alloc _ : CsAt (w3.alloc (.cells #[.int .u8 cc.toNat, .int .u8 x.id.toNat, .string x.n] 23)) w.heap.size x)
  have HB := Lib.hid (at_new w3 cc x.id x.n : At (w3.alloc (.cells #[.int .u8 cc.toNat, .int .u8 x.id.toNat, .string x.n] 23)) w3.heap.size cc x.id x.n)
  have HG := Lib.hid (HG.out.below ((Below.refl w3.heap.size w3).alloc (Nat.le_refl _) _) : Globs (w3.alloc (.cells #[.int .u8 cc.toNat, .int .u8 x.id.toNat, .string x.n] 23)))
  have HH3 := Lib.hid (HH3.out.alloc HH3.out.size _ : Below w.heap.size w (w3.alloc (.cells #[.int .u8 cc.toNat, .int .u8 x.id.toNat, .string x.n] 23)))
  have cC0 := HC.out.c0
  have cC1 := HC.out.c1
  have cC2 := HC.out.c2
  have cC3 := HC.out.c3
  have cC4 := HC.out.c4
  have cC5 := HC.out.c5
  have cC6 := HC.out.c6
  have cC7 := HC.out.c7
  have cB0 := HB.out.c0
  have cB1 := HB.out.c1
  have cB2 := HB.out.c2
  go_wp2_with fail
  refine (KN.out _).mono ?_
  rintro e w4 ⟨rfl, hb4⟩
  have HC := Lib.hid (HC.out.callee hb4)
  have HB := Lib.hid (HB.out.callee hb4)
  have HG := Lib.hid (HG.out.below hb4)
  have HH4 := Lib.hid (HH3.out.trans (hb4.mono HH3.out.size))
  clear hb4
  have cC0 := HC.out.c0
  have cC1 := HC.out.c1
  have cC2 := HC.out.c2
  have cC3 := HC.out.c3
  have cC4 := HC.out.c4
  have cC5 := HC.out.c5
  have cC6 := HC.out.c6
  have cC7 := HC.out.c7
  have cB0 := HB.out.c0
  have cB1 := HB.out.c1
  have cB2 := HB.out.c2
  go_wp2_with fail
  refine (KR.out _).mono ?_
  rintro e w5 ⟨rfl, hb5⟩
  clear HB
  have HC := Lib.hid (HC.out.callee hb5)
  have HG := Lib.hid (HG.out.below hb5)
  have HH5 := Lib.hid (HH4.out.trans (hb5.mono HH4.out.size))
  clear hb5
  have cC0 := HC.out.c0
  have cC1 := HC.out.c1
  have cC2 := HC.out.c2
  have cC3 := HC.out.c3
  have cC4 := HC.out.c4
  have cC5 := HC.out.c5
  have cC6 := HC.out.c6
  have cC7 := HC.out.c7
  go_wp2_with fail
  refine (KT.out _).mono ?_
  rintro e w6 ⟨rfl, hb6⟩
  have HC := Lib.hid (HC.out.callee hb6)
  have HG := Lib.hid (HG.out.below hb6)
  have HH6 := Lib.hid (HH5.out.trans (hb6.mono HH5.out.size))
  clear hb6
  have cC0 := HC.out.c0
  have cC1 := HC.out.c1
  have cC2 := HC.out.c2
  have cC3 := HC.out.c3
  have cC4 := HC.out.c4
  have cC5 := HC.out.c5
  have cC6 := HC.out.c6
  have cC7 := HC.out.c7
  go_wp2_with fail
  refine (alive_any _ HG.out).mono ?_
  rintro e w7 ⟨rfl, hb7⟩
  have HC := Lib.hid (HC.out.callee hb7)
  have HG := Lib.hid (HG.out.below hb7)
  have HH7 := Lib.hid (HH6.out.trans (hb7.mono HH6.out.size))
  clear hb7
  go_wp2
  go_ret
  exact ⟨rfl, HH7.out⟩
set_option maxHeartbeats 8000000 in
set_option maxRecDepth 100000 in
theorem w0_chal (x : Cas) (w : World) (hs : x.s.size ≤ 4096) (hv : x.v.size ≤ 4096) (hn : x.n.size ≤ 4096) (hd : x.p.d.size ≤ 4096) (hl : lgB x = false) (hG : Globs w) (h1 : chE x.v x.n ≠ 0) (h2 : laE x.n ≠ 0) (h3 : rdE x.p.c x.p.d = 0) (h5 : x.p.c = 1) :
    Calls Tryd.prog 4 #[.agg #[.int .u8 x.id.toNat, .string x.s, .string x.v, .string x.n, .bool x.b, .int .u8 x.p.c.toNat, .int .u8 x.p.i.toNat, .string x.p.d]] w fun e w' => e = .returned (.bool true) ∧ Below w.heap.size w w' := by
  have HG := Lib.hid hG; clear hG
  have HH0 := Lib.hid (Below.refl w.heap.size w)
  have HC := Lib.hid (cs_new w x)
  have HH0 := Lib.hid (HH0.out.alloc HH0.out.size _ : Below w.heap.size w (w.alloc (.cells #[.int .u8 x.id.toNat, .string x.s, .string x.v, .string x.n, .bool x.b, .int .u8 x.p.c.toNat, .int .u8 x.p.i.toNat, .string x.p.d] 25)))
  have HG := Lib.hid (HG.out.below HH0.out)
  have KLg := Lib.hid (fun W => long_any x W (by omega) (by omega) (by omega) (by omega))
  rw [hl] at KLg
  have KQ := Lib.hid (fun w => challenge_any x.id x.v x.n w (by unfold maxLen; omega) (by omega))
  have KU := Lib.hid (fun w => answer_any x.id x.b x.n w (by omega))
  rw [pkV_no h1] at KQ
  have hE1 : (chE x.v x.n == 0) = false := by rw [beq_eq_false_iff_ne]; exact h1
  generalize chE x.v x.n = E1 at *
  rw [pkV_no h2] at KU
  have hE2 : (laE x.n == 0) = false := by rw [beq_eq_false_iff_ne]; exact h2
  generalize laE x.n = E2 at *
  have KR := Lib.hid (fun w => read_any x.p.c x.p.i x.p.d w (by unfold maxLen; omega))
  have KT := Lib.hid (fun w => answered_any x.p.c x.p.i x.p.d w (by unfold maxLen; omega))
  obtain ⟨hcc, hch, hvn, hs1, hs2, hs3⟩ := read_put h3
  have h4 : anE x.p.c x.p.d = 8 := an_type _ (fun e => by rcases hcc with e1 | e1 <;> rw [e1] at e <;> revert e <;> decide)
  rw [anV_bad h4 (by decide)] at KT
  unfold rdV at KR
  rw [h3] at KR
  have KP := Lib.hid (fun w => challenge_any x.p.i (rdA x.p.c x.p.d) (rdB x.p.c x.p.d) w (by unfold maxLen; omega) (by omega))
  rw [show pkV (chE (rdA x.p.c x.p.d) (rdB x.p.c x.p.d)) 1 x.p.i (vn (rdA x.p.c x.p.d) (rdB x.p.c x.p.d)) = .tuple #[.agg #[.int .u8 x.p.c.toNat, .int .u8 x.p.i.toNat, .string x.p.d], .int .i64 0] from by rw [pkV_ok hch, hvn, show (1 : UInt8) = x.p.c from h5.symm]] at KP
  have hc1 : ((x.p.c.toNat : Int) == 1) = true := by rw [h5]; rfl
  have hq0 : ∀ W, (Op.equalIn 10000 23 (.agg #[.int .u8 x.p.c.toNat, .int .u8 x.p.i.toNat, .string x.p.d]) (.agg #[.int .u8 x.p.c.toNat, .int .u8 x.p.i.toNat, .string x.p.d])).run Tryd.prog W = .ok true W := pk_eq (c := x.p.c) (c' := x.p.c) (i := x.p.i) (i' := x.p.i) (s := x.p.d) (s' := x.p.d) (pk_same _ _ _)
  have hq1 : ∀ W, (binOp .eql 23 (.agg #[.int .u8 x.p.c.toNat, .int .u8 x.p.i.toNat, .string x.p.d]) (.agg #[.int .u8 x.p.c.toNat, .int .u8 x.p.i.toNat, .string x.p.d])).run Tryd.prog W = .ok (.bool true) W := pk_eql (c := x.p.c) (c' := x.p.c) (i := x.p.i) (i' := x.p.i) (s := x.p.d) (s' := x.p.d) (pk_same _ _ _)
  have hq2 : ∀ W, (binOp .neq 23 (.agg #[.int .u8 x.p.c.toNat, .int .u8 x.p.i.toNat, .string x.p.d]) (.agg #[.int .u8 x.p.c.toNat, .int .u8 x.p.i.toNat, .string x.p.d])).run Tryd.prog W = .ok (.bool false) W := pk_neq (c := x.p.c) (c' := x.p.c) (i := x.p.i) (i' := x.p.i) (s := x.p.d) (s' := x.p.d) (pk_same _ _ _)
  generalize rdA x.p.c x.p.d = y at *
  generalize rdB x.p.c x.p.d = z at *
  clear hch hvn hs1 hs2 hs3
  have f1 := beq_self x.v
  have f2 := beq_self x.n
  have f3 : ((x.id.toNat : Int) == x.id.toNat) = true := by simp
  have f4 : (x.b == x.b) = true := by simp
  have f5 := emp
  clear h1 h2
  clear h3 h4 h5 hcc
  go_enter Tryd.func4, Tryd.ntmps4
  have cC0 := HC.out.c0
  have cC1 := HC.out.c1
  have cC2 := HC.out.c2
  have cC3 := HC.out.c3
  have cC4 := HC.out.c4
  have cC5 := HC.out.c5
  have cC6 := HC.out.c6
  have cC7 := HC.out.c7
  go_wp2_with fail
  refine (KLg.out _).mono ?_
  rintro e w1 ⟨rfl, hb1⟩
  have HC := Lib.hid (HC.out.callee hb1)
  have HG := Lib.hid (HG.out.below hb1)
  have HH1 := Lib.hid (HH0.out.trans (hb1.mono HH0.out.size))
  clear hb1
  have cC0 := HC.out.c0
  have cC1 := HC.out.c1
  have cC2 := HC.out.c2
  have cC3 := HC.out.c3
  have cC4 := HC.out.c4
  have cC5 := HC.out.c5
  have cC6 := HC.out.c6
  have cC7 := HC.out.c7
  go_wp2_with fail
  refine (KQ.out _).mono ?_
  rintro e w2 ⟨rfl, hb2⟩
  have HC := Lib.hid (HC.out.callee hb2)
  have HG := Lib.hid (HG.out.below hb2)
  have HH2 := Lib.hid (HH1.out.trans (hb2.mono HH1.out.size))
  clear hb2
  have HC := Lib.hid (HC.out.alloc _ : CsAt (w2.alloc (.cells #[.int .u8 0, .int .u8 0, .string (bOf [])] 23)) w.heap.size x)
  have HA := Lib.hid (at_new w2 (0 : UInt8) (0 : UInt8) (bOf []) : At (w2.alloc (.cells #[.int .u8 0, .int .u8 0, .string (bOf [])] 23)) w2.heap.size (0 : UInt8) (0 : UInt8) (bOf []))
  have HG := Lib.hid (HG.out.below ((Below.refl w2.heap.size w2).alloc (Nat.le_refl _) _) : Globs (w2.alloc (.cells #[.int .u8 0, .int .u8 0, .string (bOf [])] 23)))
  have HH2 := Lib.hid (HH2.out.alloc HH2.out.size _ : Below w.heap.size w (w2.alloc (.cells #[.int .u8 0, .int .u8 0, .string (bOf [])] 23)))
  have cC0 := HC.out.c0
  have cC1 := HC.out.c1
  have cC2 := HC.out.c2
  have cC3 := HC.out.c3
  have cC4 := HC.out.c4
  have cC5 := HC.out.c5
  have cC6 := HC.out.c6
  have cC7 := HC.out.c7
  go_wp2_with fail
  refine (KU.out _).mono ?_
  rintro e w3 ⟨rfl, hb3⟩
  clear HA
  have HC := Lib.hid (HC.out.callee hb3)
  have HG := Lib.hid (HG.out.below hb3)
  have HH3 := Lib.hid (HH2.out.trans (hb3.mono HH2.out.size))
  clear hb3
  have HC := Lib.hid (HC.out.alloc _ : CsAt (w3.alloc (.cells #[.int .u8 0, .int .u8 0, .string (bOf [])] 23)) w.heap.size x)
  have HB := Lib.hid (at_new w3 (0 : UInt8) (0 : UInt8) (bOf []) : At (w3.alloc (.cells #[.int .u8 0, .int .u8 0, .string (bOf [])] 23)) w3.heap.size (0 : UInt8) (0 : UInt8) (bOf []))
  have HG := Lib.hid (HG.out.below ((Below.refl w3.heap.size w3).alloc (Nat.le_refl _) _) : Globs (w3.alloc (.cells #[.int .u8 0, .int .u8 0, .string (bOf [])] 23)))
  have HH3 := Lib.hid (HH3.out.alloc HH3.out.size _ : Below w.heap.size w (w3.alloc (.cells #[.int .u8 0, .int .u8 0, .string (bOf [])] 23)))
  have cC0 := HC.out.c0
  have cC1 := HC.out.c1
  have cC2 := HC.out.c2
  have cC3 := HC.out.c3
  have cC4 := HC.out.c4
  have cC5 := HC.out.c5
  have cC6 := HC.out.c6
  have cC7 := HC.out.c7
  go_wp2_with fail
  refine (KR.out _).mono ?_
  rintro e w4 ⟨rfl, hb4⟩
  clear HB
  have HC := Lib.hid (HC.out.callee hb4)
  have HG := Lib.hid (HG.out.below hb4)
  have HH4 := Lib.hid (HH3.out.trans (hb4.mono HH3.out.size))
  clear hb4
  have cC0 := HC.out.c0
  have cC1 := HC.out.c1
  have cC2 := HC.out.c2
  have cC3 := HC.out.c3
  have cC4 := HC.out.c4
  have cC5 := HC.out.c5
  have cC6 := HC.out.c6
  have cC7 := HC.out.c7
  go_wp2_with fail
  refine (KP.out _).mono ?_
  rintro e w5 ⟨rfl, hb5⟩
  have HC := Lib.hid (HC.out.callee hb5)
  have HG := Lib.hid (HG.out.below hb5)
  have HH5 := Lib.hid (HH4.out.trans (hb5.mono HH4.out.size))
  clear hb5
  have HC := Lib.hid (HC.out.alloc _ : CsAt (w5.alloc (.cells #[.int .u8 x.p.c.toNat, .int .u8 x.p.i.toNat, .string x.p.d] 23)) w.heap.size x)
  have HE := Lib.hid (at_new w5 x.p.c x.p.i x.p.d : At (w5.alloc (.cells #[.int .u8 x.p.c.toNat, .int .u8 x.p.i.toNat, .string x.p.d] 23)) w5.heap.size x.p.c x.p.i x.p.d)
  have HG := Lib.hid (HG.out.below ((Below.refl w5.heap.size w5).alloc (Nat.le_refl _) _) : Globs (w5.alloc (.cells #[.int .u8 x.p.c.toNat, .int .u8 x.p.i.toNat, .string x.p.d] 23)))
  have HH5 := Lib.hid (HH5.out.alloc HH5.out.size _ : Below w.heap.size w (w5.alloc (.cells #[.int .u8 x.p.c.toNat, .int .u8 x.p.i.toNat, .string x.p.d] 23)))
  have cC0 := HC.out.c0
  have cC1 := HC.out.c1
  have cC2 := HC.out.c2
  have cC3 := HC.out.c3
  have cC4 := HC.out.c4
  have cC5 := HC.out.c5
  have cC6 := HC.out.c6
  have cC7 := HC.out.c7
  have cE0 := HE.out.c0
  have cE1 := HE.out.c1
  have cE2 := HE.out.c2
  go_wp2_with fail
  refine (KT.out _).mono ?_
  rintro e w6 ⟨rfl, hb6⟩
  clear HE
  have HC := Lib.hid (HC.out.callee hb6)
  have HG := Lib.hid (HG.out.below hb6)
  have HH6 := Lib.hid (HH5.out.trans (hb6.mono HH5.out.size))
  clear hb6
  have cC0 := HC.out.c0
  have cC1 := HC.out.c1
  have cC2 := HC.out.c2
  have cC3 := HC.out.c3
  have cC4 := HC.out.c4
  have cC5 := HC.out.c5
  have cC6 := HC.out.c6
  have cC7 := HC.out.c7
  go_wp2_with fail
  refine (alive_any _ HG.out).mono ?_
  rintro e w7 ⟨rfl, hb7⟩
  have HC := Lib.hid (HC.out.callee hb7)
  have HG := Lib.hid (HG.out.below hb7)
  have HH7 := Lib.hid (HH6.out.trans (hb7.mono HH6.out.size))
  clear hb7
  go_wp2
  go_ret
  exact ⟨rfl, HH7.out⟩
set_option maxHeartbeats 8000000 in
set_option maxRecDepth 100000 in
theorem w0_resp (x : Cas) (w : World) (hs : x.s.size ≤ 4096) (hv : x.v.size ≤ 4096) (hn : x.n.size ≤ 4096) (hd : x.p.d.size ≤ 4096) (hl : lgB x = false) (hG : Globs w) (h1 : chE x.v x.n ≠ 0) (h2 : laE x.n ≠ 0) (h3 : rdE x.p.c x.p.d = 0) (h5 : x.p.c ≠ 1) :
    Calls Tryd.prog 4 #[.agg #[.int .u8 x.id.toNat, .string x.s, .string x.v, .string x.n, .bool x.b, .int .u8 x.p.c.toNat, .int .u8 x.p.i.toNat, .string x.p.d]] w fun e w' => e = .returned (.bool true) ∧ Below w.heap.size w w' := by
  have HG := Lib.hid hG; clear hG
  have HH0 := Lib.hid (Below.refl w.heap.size w)
  have HC := Lib.hid (cs_new w x)
  have HH0 := Lib.hid (HH0.out.alloc HH0.out.size _ : Below w.heap.size w (w.alloc (.cells #[.int .u8 x.id.toNat, .string x.s, .string x.v, .string x.n, .bool x.b, .int .u8 x.p.c.toNat, .int .u8 x.p.i.toNat, .string x.p.d] 25)))
  have HG := Lib.hid (HG.out.below HH0.out)
  have KLg := Lib.hid (fun W => long_any x W (by omega) (by omega) (by omega) (by omega))
  rw [hl] at KLg
  have KQ := Lib.hid (fun w => challenge_any x.id x.v x.n w (by unfold maxLen; omega) (by omega))
  have KU := Lib.hid (fun w => answer_any x.id x.b x.n w (by omega))
  rw [pkV_no h1] at KQ
  have hE1 : (chE x.v x.n == 0) = false := by rw [beq_eq_false_iff_ne]; exact h1
  generalize chE x.v x.n = E1 at *
  rw [pkV_no h2] at KU
  have hE2 : (laE x.n == 0) = false := by rw [beq_eq_false_iff_ne]; exact h2
  generalize laE x.n = E2 at *
  have KR := Lib.hid (fun w => read_any x.p.c x.p.i x.p.d w (by unfold maxLen; omega))
  have KT := Lib.hid (fun w => answered_any x.p.c x.p.i x.p.d w (by unfold maxLen; omega))
  obtain ⟨hcc, hch, hvn, hs1, hs2, hs3⟩ := read_put h3
  have h4 : anE x.p.c x.p.d = 8 := an_type _ (fun e => by rcases hcc with e1 | e1 <;> rw [e1] at e <;> revert e <;> decide)
  rw [anV_bad h4 (by decide)] at KT
  unfold rdV at KR
  rw [h3] at KR
  have hc1 : ((x.p.c.toNat : Int) == 1) = false := by rw [beq_eq_false_iff_ne]; intro e; exact h5 (UInt8.toNat_inj.1 (by show _ = 1; omega))
  generalize rdA x.p.c x.p.d = y at *
  generalize rdB x.p.c x.p.d = z at *
  clear hch hvn hs1 hs2 hs3
  have f1 := beq_self x.v
  have f2 := beq_self x.n
  have f3 : ((x.id.toNat : Int) == x.id.toNat) = true := by simp
  have f4 : (x.b == x.b) = true := by simp
  have f5 := emp
  clear h1 h2
  clear h3 h4 h5 hcc
  go_enter Tryd.func4, Tryd.ntmps4
  have cC0 := HC.out.c0
  have cC1 := HC.out.c1
  have cC2 := HC.out.c2
  have cC3 := HC.out.c3
  have cC4 := HC.out.c4
  have cC5 := HC.out.c5
  have cC6 := HC.out.c6
  have cC7 := HC.out.c7
  go_wp2_with fail
  refine (KLg.out _).mono ?_
  rintro e w1 ⟨rfl, hb1⟩
  have HC := Lib.hid (HC.out.callee hb1)
  have HG := Lib.hid (HG.out.below hb1)
  have HH1 := Lib.hid (HH0.out.trans (hb1.mono HH0.out.size))
  clear hb1
  have cC0 := HC.out.c0
  have cC1 := HC.out.c1
  have cC2 := HC.out.c2
  have cC3 := HC.out.c3
  have cC4 := HC.out.c4
  have cC5 := HC.out.c5
  have cC6 := HC.out.c6
  have cC7 := HC.out.c7
  go_wp2_with fail
  refine (KQ.out _).mono ?_
  rintro e w2 ⟨rfl, hb2⟩
  have HC := Lib.hid (HC.out.callee hb2)
  have HG := Lib.hid (HG.out.below hb2)
  have HH2 := Lib.hid (HH1.out.trans (hb2.mono HH1.out.size))
  clear hb2
  have HC := Lib.hid (HC.out.alloc _ : CsAt (w2.alloc (.cells #[.int .u8 0, .int .u8 0, .string (bOf [])] 23)) w.heap.size x)
  have HA := Lib.hid (at_new w2 (0 : UInt8) (0 : UInt8) (bOf []) : At (w2.alloc (.cells #[.int .u8 0, .int .u8 0, .string (bOf [])] 23)) w2.heap.size (0 : UInt8) (0 : UInt8) (bOf []))
  have HG := Lib.hid (HG.out.below ((Below.refl w2.heap.size w2).alloc (Nat.le_refl _) _) : Globs (w2.alloc (.cells #[.int .u8 0, .int .u8 0, .string (bOf [])] 23)))
  have HH2 := Lib.hid (HH2.out.alloc HH2.out.size _ : Below w.heap.size w (w2.alloc (.cells #[.int .u8 0, .int .u8 0, .string (bOf [])] 23)))
  have cC0 := HC.out.c0
  have cC1 := HC.out.c1
  have cC2 := HC.out.c2
  have cC3 := HC.out.c3
  have cC4 := HC.out.c4
  have cC5 := HC.out.c5
  have cC6 := HC.out.c6
  have cC7 := HC.out.c7
  go_wp2_with fail
  refine (KU.out _).mono ?_
  rintro e w3 ⟨rfl, hb3⟩
  clear HA
  have HC := Lib.hid (HC.out.callee hb3)
  have HG := Lib.hid (HG.out.below hb3)
  have HH3 := Lib.hid (HH2.out.trans (hb3.mono HH2.out.size))
  clear hb3
  have HC := Lib.hid (HC.out.alloc _ : CsAt (w3.alloc (.cells #[.int .u8 0, .int .u8 0, .string (bOf [])] 23)) w.heap.size x)
  have HB := Lib.hid (at_new w3 (0 : UInt8) (0 : UInt8) (bOf []) : At (w3.alloc (.cells #[.int .u8 0, .int .u8 0, .string (bOf [])] 23)) w3.heap.size (0 : UInt8) (0 : UInt8) (bOf []))
  have HG := Lib.hid (HG.out.below ((Below.refl w3.heap.size w3).alloc (Nat.le_refl _) _) : Globs (w3.alloc (.cells #[.int .u8 0, .int .u8 0, .string (bOf [])] 23)))
  have HH3 := Lib.hid (HH3.out.alloc HH3.out.size _ : Below w.heap.size w (w3.alloc (.cells #[.int .u8 0, .int .u8 0, .string (bOf [])] 23)))
  have cC0 := HC.out.c0
  have cC1 := HC.out.c1
  have cC2 := HC.out.c2
  have cC3 := HC.out.c3
  have cC4 := HC.out.c4
  have cC5 := HC.out.c5
  have cC6 := HC.out.c6
  have cC7 := HC.out.c7
  go_wp2_with fail
  refine (KR.out _).mono ?_
  rintro e w4 ⟨rfl, hb4⟩
  clear HB
  have HC := Lib.hid (HC.out.callee hb4)
  have HG := Lib.hid (HG.out.below hb4)
  have HH4 := Lib.hid (HH3.out.trans (hb4.mono HH3.out.size))
  clear hb4
  have cC0 := HC.out.c0
  have cC1 := HC.out.c1
  have cC2 := HC.out.c2
  have cC3 := HC.out.c3
  have cC4 := HC.out.c4
  have cC5 := HC.out.c5
  have cC6 := HC.out.c6
  have cC7 := HC.out.c7
  go_wp2_with fail
  refine (KT.out _).mono ?_
  rintro e w5 ⟨rfl, hb5⟩
  have HC := Lib.hid (HC.out.callee hb5)
  have HG := Lib.hid (HG.out.below hb5)
  have HH5 := Lib.hid (HH4.out.trans (hb5.mono HH4.out.size))
  clear hb5
  have cC0 := HC.out.c0
  have cC1 := HC.out.c1
  have cC2 := HC.out.c2
  have cC3 := HC.out.c3
  have cC4 := HC.out.c4
  have cC5 := HC.out.c5
  have cC6 := HC.out.c6
  have cC7 := HC.out.c7
  go_wp2_with fail
  refine (alive_any _ HG.out).mono ?_
  rintro e w6 ⟨rfl, hb6⟩
  have HC := Lib.hid (HC.out.callee hb6)
  have HG := Lib.hid (HG.out.below hb6)
  have HH6 := Lib.hid (HH5.out.trans (hb6.mono HH5.out.size))
  clear hb6
  go_wp2
  go_ret
  exact ⟨rfl, HH6.out⟩
set_option maxHeartbeats 8000000 in
set_option maxRecDepth 100000 in
theorem w0_ans (x : Cas) (w : World) (hs : x.s.size ≤ 4096) (hv : x.v.size ≤ 4096) (hn : x.n.size ≤ 4096) (hd : x.p.d.size ≤ 4096) (hl : lgB x = false) (hG : Globs w) (h1 : chE x.v x.n ≠ 0) (h2 : laE x.n ≠ 0) (h4 : anE x.p.c x.p.d = 0) :
    Calls Tryd.prog 4 #[.agg #[.int .u8 x.id.toNat, .string x.s, .string x.v, .string x.n, .bool x.b, .int .u8 x.p.c.toNat, .int .u8 x.p.i.toNat, .string x.p.d]] w fun e w' => e = .returned (.bool true) ∧ Below w.heap.size w w' := by
  have HG := Lib.hid hG; clear hG
  have HH0 := Lib.hid (Below.refl w.heap.size w)
  have HC := Lib.hid (cs_new w x)
  have HH0 := Lib.hid (HH0.out.alloc HH0.out.size _ : Below w.heap.size w (w.alloc (.cells #[.int .u8 x.id.toNat, .string x.s, .string x.v, .string x.n, .bool x.b, .int .u8 x.p.c.toNat, .int .u8 x.p.i.toNat, .string x.p.d] 25)))
  have HG := Lib.hid (HG.out.below HH0.out)
  have KLg := Lib.hid (fun W => long_any x W (by omega) (by omega) (by omega) (by omega))
  rw [hl] at KLg
  have KQ := Lib.hid (fun w => challenge_any x.id x.v x.n w (by unfold maxLen; omega) (by omega))
  have KU := Lib.hid (fun w => answer_any x.id x.b x.n w (by omega))
  rw [pkV_no h1] at KQ
  have hE1 : (chE x.v x.n == 0) = false := by rw [beq_eq_false_iff_ne]; exact h1
  generalize chE x.v x.n = E1 at *
  rw [pkV_no h2] at KU
  have hE2 : (laE x.n == 0) = false := by rw [beq_eq_false_iff_ne]; exact h2
  generalize laE x.n = E2 at *
  have KR := Lib.hid (fun w => read_any x.p.c x.p.i x.p.d w (by unfold maxLen; omega))
  have KT := Lib.hid (fun w => answered_any x.p.c x.p.i x.p.d w (by unfold maxLen; omega))
  have hw := an_put h4
  have h3 : rdE x.p.c x.p.d = 8 := rd_type _ (fun e => by rcases e with e | e <;> rw [e] at h4 <;> revert h4 <;> simp [anE])
  rw [rdV_bad h3 (by decide)] at KR
  unfold anV at KT
  rw [h4, hw.1] at KT
  have KP := Lib.hid (fun w => answer_any x.p.i (anW x.p.c x.p.d) x.p.d w (by omega))
  rw [pkV_ok hw.2.2.2, hw.2.2.1] at KP
  generalize anW x.p.c x.p.d = b5 at *
  clear hw
  have hq0 : ∀ W, (Op.equalIn 10000 23 (.agg #[.int .u8 x.p.c.toNat, .int .u8 x.p.i.toNat, .string x.p.d]) (.agg #[.int .u8 x.p.c.toNat, .int .u8 x.p.i.toNat, .string x.p.d])).run Tryd.prog W = .ok true W := pk_eq (c := x.p.c) (c' := x.p.c) (i := x.p.i) (i' := x.p.i) (s := x.p.d) (s' := x.p.d) (pk_same _ _ _)
  have hq1 : ∀ W, (binOp .eql 23 (.agg #[.int .u8 x.p.c.toNat, .int .u8 x.p.i.toNat, .string x.p.d]) (.agg #[.int .u8 x.p.c.toNat, .int .u8 x.p.i.toNat, .string x.p.d])).run Tryd.prog W = .ok (.bool true) W := pk_eql (c := x.p.c) (c' := x.p.c) (i := x.p.i) (i' := x.p.i) (s := x.p.d) (s' := x.p.d) (pk_same _ _ _)
  have hq2 : ∀ W, (binOp .neq 23 (.agg #[.int .u8 x.p.c.toNat, .int .u8 x.p.i.toNat, .string x.p.d]) (.agg #[.int .u8 x.p.c.toNat, .int .u8 x.p.i.toNat, .string x.p.d])).run Tryd.prog W = .ok (.bool false) W := pk_neq (c := x.p.c) (c' := x.p.c) (i := x.p.i) (i' := x.p.i) (s := x.p.d) (s' := x.p.d) (pk_same _ _ _)
  have f1 := beq_self x.v
  have f2 := beq_self x.n
  have f3 : ((x.id.toNat : Int) == x.id.toNat) = true := by simp
  have f4 : (x.b == x.b) = true := by simp
  have f5 := emp
  clear h1 h2
  clear h3 h4
  go_enter Tryd.func4, Tryd.ntmps4
  have cC0 := HC.out.c0
  have cC1 := HC.out.c1
  have cC2 := HC.out.c2
  have cC3 := HC.out.c3
  have cC4 := HC.out.c4
  have cC5 := HC.out.c5
  have cC6 := HC.out.c6
  have cC7 := HC.out.c7
  go_wp2_with fail
  refine (KLg.out _).mono ?_
  rintro e w1 ⟨rfl, hb1⟩
  have HC := Lib.hid (HC.out.callee hb1)
  have HG := Lib.hid (HG.out.below hb1)
  have HH1 := Lib.hid (HH0.out.trans (hb1.mono HH0.out.size))
  clear hb1
  have cC0 := HC.out.c0
  have cC1 := HC.out.c1
  have cC2 := HC.out.c2
  have cC3 := HC.out.c3
  have cC4 := HC.out.c4
  have cC5 := HC.out.c5
  have cC6 := HC.out.c6
  have cC7 := HC.out.c7
  go_wp2_with fail
  refine (KQ.out _).mono ?_
  rintro e w2 ⟨rfl, hb2⟩
  have HC := Lib.hid (HC.out.callee hb2)
  have HG := Lib.hid (HG.out.below hb2)
  have HH2 := Lib.hid (HH1.out.trans (hb2.mono HH1.out.size))
  clear hb2
  have HC := Lib.hid (HC.out.alloc _ : CsAt (w2.alloc (.cells #[.int .u8 0, .int .u8 0, .string (bOf [])] 23)) w.heap.size x)
  have HA := Lib.hid (at_new w2 (0 : UInt8) (0 : UInt8) (bOf []) : At (w2.alloc (.cells #[.int .u8 0, .int .u8 0, .string (bOf [])] 23)) w2.heap.size (0 : UInt8) (0 : UInt8) (bOf []))
  have HG := Lib.hid (HG.out.below ((Below.refl w2.heap.size w2).alloc (Nat.le_refl _) _) : Globs (w2.alloc (.cells #[.int .u8 0, .int .u8 0, .string (bOf [])] 23)))
  have HH2 := Lib.hid (HH2.out.alloc HH2.out.size _ : Below w.heap.size w (w2.alloc (.cells #[.int .u8 0, .int .u8 0, .string (bOf [])] 23)))
  have cC0 := HC.out.c0
  have cC1 := HC.out.c1
  have cC2 := HC.out.c2
  have cC3 := HC.out.c3
  have cC4 := HC.out.c4
  have cC5 := HC.out.c5
  have cC6 := HC.out.c6
  have cC7 := HC.out.c7
  go_wp2_with fail
  refine (KU.out _).mono ?_
  rintro e w3 ⟨rfl, hb3⟩
  clear HA
  have HC := Lib.hid (HC.out.callee hb3)
  have HG := Lib.hid (HG.out.below hb3)
  have HH3 := Lib.hid (HH2.out.trans (hb3.mono HH2.out.size))
  clear hb3
  have HC := Lib.hid (HC.out.alloc _ : CsAt (w3.alloc (.cells #[.int .u8 0, .int .u8 0, .string (bOf [])] 23)) w.heap.size x)
  have HB := Lib.hid (at_new w3 (0 : UInt8) (0 : UInt8) (bOf []) : At (w3.alloc (.cells #[.int .u8 0, .int .u8 0, .string (bOf [])] 23)) w3.heap.size (0 : UInt8) (0 : UInt8) (bOf []))
  have HG := Lib.hid (HG.out.below ((Below.refl w3.heap.size w3).alloc (Nat.le_refl _) _) : Globs (w3.alloc (.cells #[.int .u8 0, .int .u8 0, .string (bOf [])] 23)))
  have HH3 := Lib.hid (HH3.out.alloc HH3.out.size _ : Below w.heap.size w (w3.alloc (.cells #[.int .u8 0, .int .u8 0, .string (bOf [])] 23)))
  have cC0 := HC.out.c0
  have cC1 := HC.out.c1
  have cC2 := HC.out.c2
  have cC3 := HC.out.c3
  have cC4 := HC.out.c4
  have cC5 := HC.out.c5
  have cC6 := HC.out.c6
  have cC7 := HC.out.c7
  go_wp2_with fail
  refine (KR.out _).mono ?_
  rintro e w4 ⟨rfl, hb4⟩
  clear HB
  have HC := Lib.hid (HC.out.callee hb4)
  have HG := Lib.hid (HG.out.below hb4)
  have HH4 := Lib.hid (HH3.out.trans (hb4.mono HH3.out.size))
  clear hb4
  have cC0 := HC.out.c0
  have cC1 := HC.out.c1
  have cC2 := HC.out.c2
  have cC3 := HC.out.c3
  have cC4 := HC.out.c4
  have cC5 := HC.out.c5
  have cC6 := HC.out.c6
  have cC7 := HC.out.c7
  go_wp2_with fail
  refine (KT.out _).mono ?_
  rintro e w5 ⟨rfl, hb5⟩
  have HC := Lib.hid (HC.out.callee hb5)
  have HG := Lib.hid (HG.out.below hb5)
  have HH5 := Lib.hid (HH4.out.trans (hb5.mono HH4.out.size))
  clear hb5
  have cC0 := HC.out.c0
  have cC1 := HC.out.c1
  have cC2 := HC.out.c2
  have cC3 := HC.out.c3
  have cC4 := HC.out.c4
  have cC5 := HC.out.c5
  have cC6 := HC.out.c6
  have cC7 := HC.out.c7
  go_wp2_with fail
  refine (KP.out _).mono ?_
  rintro e w6 ⟨rfl, hb6⟩
  have HC := Lib.hid (HC.out.callee hb6)
  have HG := Lib.hid (HG.out.below hb6)
  have HH6 := Lib.hid (HH5.out.trans (hb6.mono HH5.out.size))
  clear hb6
  have HC := Lib.hid (HC.out.alloc _ : CsAt (w6.alloc (.cells #[.int .u8 x.p.c.toNat, .int .u8 x.p.i.toNat, .string x.p.d] 23)) w.heap.size x)
  have HF := Lib.hid (at_new w6 x.p.c x.p.i x.p.d : At (w6.alloc (.cells #[.int .u8 x.p.c.toNat, .int .u8 x.p.i.toNat, .string x.p.d] 23)) w6.heap.size x.p.c x.p.i x.p.d)
  have HG := Lib.hid (HG.out.below ((Below.refl w6.heap.size w6).alloc (Nat.le_refl _) _) : Globs (w6.alloc (.cells #[.int .u8 x.p.c.toNat, .int .u8 x.p.i.toNat, .string x.p.d] 23)))
  have HH6 := Lib.hid (HH6.out.alloc HH6.out.size _ : Below w.heap.size w (w6.alloc (.cells #[.int .u8 x.p.c.toNat, .int .u8 x.p.i.toNat, .string x.p.d] 23)))
  have cC0 := HC.out.c0
  have cC1 := HC.out.c1
  have cC2 := HC.out.c2
  have cC3 := HC.out.c3
  have cC4 := HC.out.c4
  have cC5 := HC.out.c5
  have cC6 := HC.out.c6
  have cC7 := HC.out.c7
  have cF0 := HF.out.c0
  have cF1 := HF.out.c1
  have cF2 := HF.out.c2
  go_wp2_with fail
  refine (alive_any _ HG.out).mono ?_
  rintro e w7 ⟨rfl, hb7⟩
  clear HF
  have HC := Lib.hid (HC.out.callee hb7)
  have HG := Lib.hid (HG.out.below hb7)
  have HH7 := Lib.hid (HH6.out.trans (hb7.mono HH6.out.size))
  clear hb7
  go_wp2
  go_ret
  exact ⟨rfl, HH7.out⟩
set_option maxHeartbeats 8000000 in
set_option maxRecDepth 100000 in
theorem w0_none (x : Cas) (w : World) (hs : x.s.size ≤ 4096) (hv : x.v.size ≤ 4096) (hn : x.n.size ≤ 4096) (hd : x.p.d.size ≤ 4096) (hl : lgB x = false) (hG : Globs w) (h1 : chE x.v x.n ≠ 0) (h2 : laE x.n ≠ 0) (h3 : rdE x.p.c x.p.d ≠ 0) (h4 : anE x.p.c x.p.d ≠ 0) :
    Calls Tryd.prog 4 #[.agg #[.int .u8 x.id.toNat, .string x.s, .string x.v, .string x.n, .bool x.b, .int .u8 x.p.c.toNat, .int .u8 x.p.i.toNat, .string x.p.d]] w fun e w' => e = .returned (.bool true) ∧ Below w.heap.size w w' := by
  have HG := Lib.hid hG; clear hG
  have HH0 := Lib.hid (Below.refl w.heap.size w)
  have HC := Lib.hid (cs_new w x)
  have HH0 := Lib.hid (HH0.out.alloc HH0.out.size _ : Below w.heap.size w (w.alloc (.cells #[.int .u8 x.id.toNat, .string x.s, .string x.v, .string x.n, .bool x.b, .int .u8 x.p.c.toNat, .int .u8 x.p.i.toNat, .string x.p.d] 25)))
  have HG := Lib.hid (HG.out.below HH0.out)
  have KLg := Lib.hid (fun W => long_any x W (by omega) (by omega) (by omega) (by omega))
  rw [hl] at KLg
  have KQ := Lib.hid (fun w => challenge_any x.id x.v x.n w (by unfold maxLen; omega) (by omega))
  have KU := Lib.hid (fun w => answer_any x.id x.b x.n w (by omega))
  rw [pkV_no h1] at KQ
  have hE1 : (chE x.v x.n == 0) = false := by rw [beq_eq_false_iff_ne]; exact h1
  generalize chE x.v x.n = E1 at *
  rw [pkV_no h2] at KU
  have hE2 : (laE x.n == 0) = false := by rw [beq_eq_false_iff_ne]; exact h2
  generalize laE x.n = E2 at *
  have KR := Lib.hid (fun w => read_any x.p.c x.p.i x.p.d w (by unfold maxLen; omega))
  have KT := Lib.hid (fun w => answered_any x.p.c x.p.i x.p.d w (by unfold maxLen; omega))
  have hE3 : (rdE x.p.c x.p.d == 0) = false := by rw [beq_eq_false_iff_ne]; exact h3
  have hE4 : (anE x.p.c x.p.d == 0) = false := by rw [beq_eq_false_iff_ne]; exact h4
  rw [rdV_bad rfl h3] at KR
  rw [anV_bad rfl h4] at KT
  generalize rdE x.p.c x.p.d = E3 at *
  generalize anE x.p.c x.p.d = E4 at *
  have f1 := beq_self x.v
  have f2 := beq_self x.n
  have f3 : ((x.id.toNat : Int) == x.id.toNat) = true := by simp
  have f4 : (x.b == x.b) = true := by simp
  have f5 := emp
  clear h1 h2
  clear h3 h4
  go_enter Tryd.func4, Tryd.ntmps4
  have cC0 := HC.out.c0
  have cC1 := HC.out.c1
  have cC2 := HC.out.c2
  have cC3 := HC.out.c3
  have cC4 := HC.out.c4
  have cC5 := HC.out.c5
  have cC6 := HC.out.c6
  have cC7 := HC.out.c7
  go_wp2_with fail
  refine (KLg.out _).mono ?_
  rintro e w1 ⟨rfl, hb1⟩
  have HC := Lib.hid (HC.out.callee hb1)
  have HG := Lib.hid (HG.out.below hb1)
  have HH1 := Lib.hid (HH0.out.trans (hb1.mono HH0.out.size))
  clear hb1
  have cC0 := HC.out.c0
  have cC1 := HC.out.c1
  have cC2 := HC.out.c2
  have cC3 := HC.out.c3
  have cC4 := HC.out.c4
  have cC5 := HC.out.c5
  have cC6 := HC.out.c6
  have cC7 := HC.out.c7
  go_wp2_with fail
  refine (KQ.out _).mono ?_
  rintro e w2 ⟨rfl, hb2⟩
  have HC := Lib.hid (HC.out.callee hb2)
  have HG := Lib.hid (HG.out.below hb2)
  have HH2 := Lib.hid (HH1.out.trans (hb2.mono HH1.out.size))
  clear hb2
  have HC := Lib.hid (HC.out.alloc _ : CsAt (w2.alloc (.cells #[.int .u8 0, .int .u8 0, .string (bOf [])] 23)) w.heap.size x)
  have HA := Lib.hid (at_new w2 (0 : UInt8) (0 : UInt8) (bOf []) : At (w2.alloc (.cells #[.int .u8 0, .int .u8 0, .string (bOf [])] 23)) w2.heap.size (0 : UInt8) (0 : UInt8) (bOf []))
  have HG := Lib.hid (HG.out.below ((Below.refl w2.heap.size w2).alloc (Nat.le_refl _) _) : Globs (w2.alloc (.cells #[.int .u8 0, .int .u8 0, .string (bOf [])] 23)))
  have HH2 := Lib.hid (HH2.out.alloc HH2.out.size _ : Below w.heap.size w (w2.alloc (.cells #[.int .u8 0, .int .u8 0, .string (bOf [])] 23)))
  have cC0 := HC.out.c0
  have cC1 := HC.out.c1
  have cC2 := HC.out.c2
  have cC3 := HC.out.c3
  have cC4 := HC.out.c4
  have cC5 := HC.out.c5
  have cC6 := HC.out.c6
  have cC7 := HC.out.c7
  go_wp2_with fail
  refine (KU.out _).mono ?_
  rintro e w3 ⟨rfl, hb3⟩
  clear HA
  have HC := Lib.hid (HC.out.callee hb3)
  have HG := Lib.hid (HG.out.below hb3)
  have HH3 := Lib.hid (HH2.out.trans (hb3.mono HH2.out.size))
  clear hb3
  have HC := Lib.hid (HC.out.alloc _ : CsAt (w3.alloc (.cells #[.int .u8 0, .int .u8 0, .string (bOf [])] 23)) w.heap.size x)
  have HB := Lib.hid (at_new w3 (0 : UInt8) (0 : UInt8) (bOf []) : At (w3.alloc (.cells #[.int .u8 0, .int .u8 0, .string (bOf [])] 23)) w3.heap.size (0 : UInt8) (0 : UInt8) (bOf []))
  have HG := Lib.hid (HG.out.below ((Below.refl w3.heap.size w3).alloc (Nat.le_refl _) _) : Globs (w3.alloc (.cells #[.int .u8 0, .int .u8 0, .string (bOf [])] 23)))
  have HH3 := Lib.hid (HH3.out.alloc HH3.out.size _ : Below w.heap.size w (w3.alloc (.cells #[.int .u8 0, .int .u8 0, .string (bOf [])] 23)))
  have cC0 := HC.out.c0
  have cC1 := HC.out.c1
  have cC2 := HC.out.c2
  have cC3 := HC.out.c3
  have cC4 := HC.out.c4
  have cC5 := HC.out.c5
  have cC6 := HC.out.c6
  have cC7 := HC.out.c7
  go_wp2_with fail
  refine (KR.out _).mono ?_
  rintro e w4 ⟨rfl, hb4⟩
  clear HB
  have HC := Lib.hid (HC.out.callee hb4)
  have HG := Lib.hid (HG.out.below hb4)
  have HH4 := Lib.hid (HH3.out.trans (hb4.mono HH3.out.size))
  clear hb4
  have cC0 := HC.out.c0
  have cC1 := HC.out.c1
  have cC2 := HC.out.c2
  have cC3 := HC.out.c3
  have cC4 := HC.out.c4
  have cC5 := HC.out.c5
  have cC6 := HC.out.c6
  have cC7 := HC.out.c7
  go_wp2_with fail
  refine (KT.out _).mono ?_
  rintro e w5 ⟨rfl, hb5⟩
  have HC := Lib.hid (HC.out.callee hb5)
  have HG := Lib.hid (HG.out.below hb5)
  have HH5 := Lib.hid (HH4.out.trans (hb5.mono HH4.out.size))
  clear hb5
  have cC0 := HC.out.c0
  have cC1 := HC.out.c1
  have cC2 := HC.out.c2
  have cC3 := HC.out.c3
  have cC4 := HC.out.c4
  have cC5 := HC.out.c5
  have cC6 := HC.out.c6
  have cC7 := HC.out.c7
  go_wp2_with fail
  refine (alive_any _ HG.out).mono ?_
  rintro e w6 ⟨rfl, hb6⟩
  have HC := Lib.hid (HC.out.callee hb6)
  have HG := Lib.hid (HG.out.below hb6)
  have HH6 := Lib.hid (HH5.out.trans (hb6.mono HH5.out.size))
  clear hb6
  go_wp2
  go_ret
  exact ⟨rfl, HH6.out⟩
theorem small {x : Cas} (h : lgB x = false) : x.s.size ≤ 4096 ∧ x.v.size ≤ 4096 ∧ x.n.size ≤ 4096 ∧ x.p.d.size ≤ 4096 := by
  have := of_decide_eq_false h
  omega
set_option maxHeartbeats 8000000 in
set_option maxRecDepth 100000 in
theorem walk (x : Cas) (w : World) (hs : x.s.size ≤ 140737488351232) (hv : x.v.size ≤ 140737488351232) (hn : x.n.size ≤ 140737488351232) (hd : x.p.d.size ≤ 140737488351232) (hG : Globs w) :
    Calls Tryd.prog 4 #[.agg #[.int .u8 x.id.toNat, .string x.s, .string x.v, .string x.n, .bool x.b, .int .u8 x.p.c.toNat, .int .u8 x.p.i.toNat, .string x.p.d]] w fun e w' => e = .returned (.bool true) ∧ Below w.heap.size w w' := by
  by_cases hl : lgB x = true
  · have HG := Lib.hid hG; clear hG
    have HH0 := Lib.hid (Below.refl w.heap.size w)
    have HC := Lib.hid (cs_new w x)
    have HH0 := Lib.hid (HH0.out.alloc HH0.out.size _ : Below w.heap.size w (w.alloc (.cells #[.int .u8 x.id.toNat, .string x.s, .string x.v, .string x.n, .bool x.b, .int .u8 x.p.c.toNat, .int .u8 x.p.i.toNat, .string x.p.d] 25)))
    have HG := Lib.hid (HG.out.below HH0.out)
    have KLg := Lib.hid (fun W => long_any x W hs hv hn hd)
    rw [hl] at KLg
    go_enter Tryd.func4, Tryd.ntmps4
    have cC0 := HC.out.c0
    have cC1 := HC.out.c1
    have cC2 := HC.out.c2
    have cC3 := HC.out.c3
    have cC4 := HC.out.c4
    have cC5 := HC.out.c5
    have cC6 := HC.out.c6
    have cC7 := HC.out.c7
    go_wp2_with fail
    refine (KLg.out _).mono ?_
    rintro e w1 ⟨rfl, hb1⟩
    have HC := Lib.hid (HC.out.callee hb1)
    have HG := Lib.hid (HG.out.below hb1)
    have HH1 := Lib.hid (HH0.out.trans (hb1.mono HH0.out.size))
    clear hb1
    go_wp2_with fail
    refine (alive_any _ HG.out).mono ?_
    rintro e w2 ⟨rfl, hb2⟩
    have HC := Lib.hid (HC.out.callee hb2)
    have HG := Lib.hid (HG.out.below hb2)
    have HH2 := Lib.hid (HH1.out.trans (hb2.mono HH1.out.size))
    clear hb2
    go_wp2
    go_ret
    exact ⟨rfl, HH2.out⟩
  · have hl : lgB x = false := by simpa using hl
    have h := small hl
    by_cases h1 : chE x.v x.n = 0
    · by_cases h3 : rdE x.p.c x.p.d = 0
      · by_cases h5 : x.p.c = 1
        · exact w2_chal x w h.1 h.2.1 h.2.2.1 h.2.2.2 hl hG h1 h3 h5
        · exact w2_resp x w h.1 h.2.1 h.2.2.1 h.2.2.2 hl hG h1 h3 h5
      · by_cases h4 : anE x.p.c x.p.d = 0
        · exact w2_ans x w h.1 h.2.1 h.2.2.1 h.2.2.2 hl hG h1 h4
        · exact w2_none x w h.1 h.2.1 h.2.2.1 h.2.2.2 hl hG h1 h3 h4
    · by_cases h2 : laE x.n = 0
      · by_cases h3 : rdE x.p.c x.p.d = 0
        · by_cases h5 : x.p.c = 1
          · exact w1_chal x w h.1 h.2.1 h.2.2.1 h.2.2.2 hl hG h1 h2 h3 h5
          · exact w1_resp x w h.1 h.2.1 h.2.2.1 h.2.2.2 hl hG h1 h2 h3 h5
        · by_cases h4 : anE x.p.c x.p.d = 0
          · exact w1_ans x w h.1 h.2.1 h.2.2.1 h.2.2.2 hl hG h1 h2 h4
          · exact w1_none x w h.1 h.2.1 h.2.2.1 h.2.2.2 hl hG h1 h2 h3 h4
      · by_cases h3 : rdE x.p.c x.p.d = 0
        · by_cases h5 : x.p.c = 1
          · exact w0_chal x w h.1 h.2.1 h.2.2.1 h.2.2.2 hl hG h1 h2 h3 h5
          · exact w0_resp x w h.1 h.2.1 h.2.2.1 h.2.2.2 hl hG h1 h2 h3 h5
        · by_cases h4 : anE x.p.c x.p.d = 0
          · exact w0_ans x w h.1 h.2.1 h.2.2.1 h.2.2.2 hl hG h1 h2 h4
          · exact w0_none x w h.1 h.2.1 h.2.2.1 h.2.2.2 hl hG h1 h2 h3 h4

set_option maxRecDepth 100000 in
theorem lifted (os : Os) (started : os.Started) (H : Type) (enc : TypeId × Value → H) :
    ReturnsInHanded {} Tryd.checked os 4 .any (fun w args => (Rows.chapBackSpec.pre enc Tryd.prog Tryd.f4 [] false w args ∧ laidMetH Tryd.prog laid2 w) ∧ sizedMet enc Tryd.prog Tryd.f4 (OpenSpec.ofChange Rows.chapBackSpec) false w args)
      (Rows.chapBackSpec.post enc Tryd.prog Tryd.f4 false true false false) := by
  refine returnsInHanded_of_change_and (C := Tryd.checked) (X := fun w _ => laidMetH Tryd.prog laid2 w) (fun _ _ _ hh h => h.of_heap hh) own started (by kernel_rfl) Tryd.func4
    (ChangeSpec.witness_shaped (enc := enc) (C := Tryd.checked) (os := os) (X := fun w _ => laidMetH Tryd.prog laid2 w) false (World.doorLaid Tryd.prog 400 os) #[.agg #[.int .u8 0, .string ByteArray.empty, .string ByteArray.empty, .string ByteArray.empty, .bool false, .int .u8 0, .int .u8 0, .string ByteArray.empty]] 8 rfl (World.shaped_of_RefB (by kernel_rfl) (by kernel_rfl)) (by kernel_rfl) (by kernel_rfl) (by kernel_rfl) (door_met os _)) ?_
  intro W base args ds gs before hval0 hW _ hsz0 hL _
  have hsz : (DataW.weightsEach Tryd.prog (Tryd.f4.params.toList ++ Rows.chapBackSpec.plain.varTypes Tryd.prog) (ds ++ gs)).all (· ≤ reachBytes) = true := hsz0
  have hval : ∀ (j : Nat) t v, Tryd.f4.params[j]? = some t → args[j]? = some v → Value.okWide Tryd.prog W .any base t v := hval0
  have hW' := hW
  obtain ⟨p, q, hA0, hV, rfl, hfz, hnd⟩ := hW
  have hlt := hW'.lt
  have hA : DataW.TrodAll enc Tryd.prog W 0 (fun _ => true) true Tryd.f4.params.toList args.toList ds p := hA0
  rw [Tryd.params4] at hA hval hsz
  obtain ⟨v0, vs0, d0, ds0, p0, q0, hargs, rfl, rfl, h0, r0⟩ := trodAll_cons hA
  obtain ⟨rfl, rfl, rfl⟩ := trodAll_nil r0
  obtain rfl : args = #[v0] := by cases args; simp_all
  obtain ⟨rfl, rfl⟩ := trodVars_none hV
  obtain ⟨a0, rfl, ls0, lv0, ln0, ld0⟩ := case_of Tryd.underlying25 (by kernel_rfl) (by kernel_rfl) (by kernel_rfl) Tryd.underlying5 Tryd.underlying9 Tryd.underlying9 Tryd.underlying9 Tryd.underlying4 Tryd.underlying23 (by kernel_rfl) Tryd.underlying5 Tryd.underlying5 Tryd.underlying9 (hval 0 25 v0 rfl rfl) h0 (fun n hn => of_decide_eq_true (List.all_eq_true.1 hsz n (DataW.weights_mem_each (j := 0) (t := 25) rfl rfl n hn)))
  clear hA0 hval0 hsz0
  exact (walk a0 W ls0 lv0 ln0 ld0 (of_laid hL)).mono fun e W' ⟨he, hb⟩ => ⟨_, he, Law.law_post (t := 4) laidOut (by kernel_rfl) rfl rfl Tryd.underlying4 ⟨rfl, rfl, rfl⟩ hW' hb⟩

theorem over : Rows.chapBackRow.holds Tryd.pinned (OpenSpec.ofChange Rows.chapBackSpec) :=
  OpenClaim.holds_of_wide 4 Tryd.f4 rfl rfl rfl rfl rfl rfl rfl ⟨rfl, rfl, rfl, rfl, rfl⟩ rfl rfl rfl rfl rfl (by kernel_rfl) Tryd.func4 (by kernel_rfl)
    (of_decide_eq_true (by kernel_rfl)) (by unfold Func.isWrapper; first | (rw [if_pos (by decide +kernel)]; kernel_rfl) | (rw [if_neg (by decide +kernel)]; exact ⟨rfl, rfl⟩))
    (fun os started H enc _ => lifted os started H enc)

theorem proved : Rows.ChapBackCardSaid :=
  Claim7.holds_tied_plain_at .later [] [.data, .data] true _ false
    over (fun _ h => by cases h) (by kernel_rfl) (fun _ h => by cases h) chapBack_row_tie rfl ⟨rfl, rfl⟩ (by kernel_rfl) rfl
    (fun f fn hf hfn => by
      obtain rfl : f = 4 := Option.some.inj ((show Tryd.prog.funcNamed "halyard/halyardlaw19.ChapBack" = some 4 by kernel_rfl).symm.trans hf) |>.symm
      obtain rfl : fn = Tryd.f4 := (Option.some.inj (Tryd.func4.symm.trans hfn)).symm
      exact ⟨by kernel_rfl, fun j t ht => by
        rw [Tryd.params4] at ht
        rcases j with _ | j
        · obtain rfl : t = 25 := by simpa using ht.symm
          exact (show Tryd.prog.wantsStandIn 25 = false by kernel_rfl)
        simp at ht⟩)
    (by kernel_rfl)
#print axioms proved
end Go.Proofs.YtipcmkcllibnfaaDoor.ChapBack
