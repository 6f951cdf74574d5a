/- PROVED: 'halyardlaw18.PapTells' returns true for every identifier, every two texts, each answer and every packet, and leaves them as they were. No condition. -/
import Derived.Test.YthddfpmjjbpkgaaPapF
import Derived.Test.YthddfpmjjbpkgaaPapG
import Derived.Test.YthddfpmjjbpkgaaPk3
import Derived.Test.YthddfpmjjbpkgaaLaw
import Derived.Test.YthddfpmjjbpkgaaRows
import Derived.SizedLaws
import Derived.StillTailTactics
namespace Go.Proofs.Ythddfpmjjbpkgaa.PapTells
open Go.ChangeShapes Go.WideShapes Go.ChangeAt Go.RowKit Go.Proofs.Ythddfpmjjbpkgaa.Oct Go.Proofs.Ythddfpmjjbpkgaa.Row Go.Proofs.Ythddfpmjjbpkgaa.Pkt Go.Proofs.Ythddfpmjjbpkgaa.Pap Go.Proofs.Ythddfpmjjbpkgaa.Mem Go.Proofs.Ythddfpmjjbpkgaa.Law
open Go.ChangeMaps (open_string shut_string)

set_option maxHeartbeats 8000000 in
set_option maxRecDepth 100000 in
theorem walk (id c i : UInt8) (n s d : ByteArray) (v : Bool) (hn : n.size ≤ 140737488351232) (hs : s.size ≤ 140737488351232) (hd : d.size ≤ 140737488351232) (w : World) :
    Calls Try.prog 3 #[.int .u8 id.toNat, .string n, .string s, .bool v, .agg #[.int .u8 c.toNat, .int .u8 i.toNat, .string d]] w fun e w' => e = .returned (.bool true) ∧ Below w.heap.size w w' := by
  by_cases h : 4096 < (n.size : Int) + (s.size : Int) + (d.size : Int)
  · have HH0 := Lib.hid (Below.refl w.heap.size w)
    have HP := Lib.hid (at_new w c i d : At (w.alloc (.cells #[.int .u8 c.toNat, .int .u8 i.toNat, .string d] 23)) w.heap.size c i d)
    have HH0 := Lib.hid (HH0.out.alloc HH0.out.size _ : Below w.heap.size w (w.alloc (.cells #[.int .u8 c.toNat, .int .u8 i.toNat, .string d] 23)))
    go_enter Try.func3, Try.ntmps3
    go_wp2_with fail
    refine (alive_any _).mono ?_
    rintro e w1 ⟨rfl, hb1⟩
    have HP := Lib.hid (HP.out.callee hb1)
    have HH1 := Lib.hid (HH0.out.trans (hb1.mono HH0.out.size))
    clear hb1
    go_wp2
    go_ret
    exact ⟨rfl, HH1.out⟩
  · obtain ⟨E, hE⟩ : ∃ E, asE c d = E := ⟨_, rfl⟩
    obtain ⟨x, hx⟩ : ∃ x, asT c d 0 = x := ⟨_, rfl⟩
    obtain ⟨y, hy⟩ : ∃ y, asT c d 1 = y := ⟨_, rfl⟩
    by_cases h0 : E = 0
    · by_cases h1 : x = n
      · have HH0 := Lib.hid (Below.refl w.heap.size w)
        have HP := Lib.hid (at_new w c i d : At (w.alloc (.cells #[.int .u8 c.toNat, .int .u8 i.toNat, .string d] 23)) w.heap.size c i d)
        have HH0 := Lib.hid (HH0.out.alloc HH0.out.size _ : Below w.heap.size w (w.alloc (.cells #[.int .u8 c.toNat, .int .u8 i.toNat, .string d] 23)))
        have KQ := Lib.hid (fun w => request_any id n s w (by unfold maxLen; omega) (by unfold maxLen; omega))
        have KR := Lib.hid (fun w => rrequest_any id n s w (by unfold maxLen; omega) (by unfold maxLen; omega))
        have KS := Lib.hid (fun w => answer_any id v s w (by unfold maxLen; omega))
        have KT := Lib.hid (fun w => ranswer_any id v s w (by unfold maxLen; omega))
        unfold pkV at KQ KR KS KT
        generalize pkB [n, s] 1 = C1 at KQ KR KS KT
        generalize pkB [n, s] id = I1 at KQ KR KS KT
        generalize joinS [n, s] = D1 at KQ KR KS KT
        generalize joinE [n, s] = E1 at KQ KR KS KT
        generalize pkB [s] (if v = true then 2 else 3) = C2 at KQ KR KS KT
        generalize pkB [s] id = I2 at KQ KR KS KT
        generalize joinS [s] = D2 at KQ KR KS KT
        generalize joinE [s] = E2 at KQ KR KS KT
        have KA := Lib.hid (fun w => asked_any c i d w (by unfold maxLen; omega))
        have KB := Lib.hid (fun w => rasked_any c i d w (by unfold maxLen; omega))
        have KC := Lib.hid (fun w => answered_any c i d w (by unfold maxLen; omega))
        have KD := Lib.hid (fun w => ranswered_any c i d w (by unfold maxLen; omega))
        have KK := Lib.hid (fun w => check_any c i d n s w (by unfold maxLen; omega))
        unfold asV at KA KB
        unfold anV at KC KD
        unfold ckB at KK
        rw [hE, hx, hy] at KA KB KK
        generalize anW c d = v3 at KC KD
        generalize anT c d = m3 at KC KD
        generalize anE c d = E3 at KC KD
        clear hE hx hy
        have hq0 : ∀ W, (Op.equalIn 10000 23 (.agg #[.int .u8 C1.toNat, .int .u8 I1.toNat, .string D1]) (.agg #[.int .u8 C1.toNat, .int .u8 I1.toNat, .string D1])).run Try.prog W = .ok true W := pk_eq (c := C1) (c' := C1) (i := I1) (i' := I1) (s := D1) (s' := D1) (pk_same _ _ _)
        have hq1 : ∀ W, (binOp .eql 23 (.agg #[.int .u8 C1.toNat, .int .u8 I1.toNat, .string D1]) (.agg #[.int .u8 C1.toNat, .int .u8 I1.toNat, .string D1])).run Try.prog W = .ok (.bool true) W := pk_eql (c := C1) (c' := C1) (i := I1) (i' := I1) (s := D1) (s' := D1) (pk_same _ _ _)
        have hq2 : ∀ W, (binOp .neq 23 (.agg #[.int .u8 C1.toNat, .int .u8 I1.toNat, .string D1]) (.agg #[.int .u8 C1.toNat, .int .u8 I1.toNat, .string D1])).run Try.prog W = .ok (.bool false) W := pk_neq (c := C1) (c' := C1) (i := I1) (i' := I1) (s := D1) (s' := D1) (pk_same _ _ _)
        have hr0 : ∀ W, (Op.equalIn 10000 23 (.agg #[.int .u8 C2.toNat, .int .u8 I2.toNat, .string D2]) (.agg #[.int .u8 C2.toNat, .int .u8 I2.toNat, .string D2])).run Try.prog W = .ok true W := pk_eq (c := C2) (c' := C2) (i := I2) (i' := I2) (s := D2) (s' := D2) (pk_same _ _ _)
        have hr1 : ∀ W, (binOp .eql 23 (.agg #[.int .u8 C2.toNat, .int .u8 I2.toNat, .string D2]) (.agg #[.int .u8 C2.toNat, .int .u8 I2.toNat, .string D2])).run Try.prog W = .ok (.bool true) W := pk_eql (c := C2) (c' := C2) (i := I2) (i' := I2) (s := D2) (s' := D2) (pk_same _ _ _)
        have hr2 : ∀ W, (binOp .neq 23 (.agg #[.int .u8 C2.toNat, .int .u8 I2.toNat, .string D2]) (.agg #[.int .u8 C2.toNat, .int .u8 I2.toNat, .string D2])).run Try.prog W = .ok (.bool false) W := pk_neq (c := C2) (c' := C2) (i := I2) (i' := I2) (s := D2) (s' := D2) (pk_same _ _ _)
        have b1 := beq_self x
        have b2 := beq_self y
        have b3 := beq_self m3
        have b4 : (v3 == v3) = true := by simp
        have b5 : (E == E) = true := by simp
        have b6 : (E3 == E3) = true := by simp
        subst h0
        subst h1
        have k2 := str_eq y s
        generalize hq : decide (y = s) = q at *
        rw [show decide ((0 : Int) = 0 ∧ x = x ∧ y = s) = q from by simp [hq]] at KK
        have k3 : (q == q) = true := by simp
        clear hq
        go_enter Try.func3, Try.ntmps3
        go_wp2_with fail
        refine (KQ.out _).mono ?_
        rintro e w1 ⟨rfl, hb1⟩
        have HP := Lib.hid (HP.out.callee hb1)
        have HH1 := Lib.hid (HH0.out.trans (hb1.mono HH0.out.size))
        clear hb1
        have HP := Lib.hid (HP.out.alloc _ : At (w1.alloc (.cells #[.int .u8 C1.toNat, .int .u8 I1.toNat, .string D1] 23)) w.heap.size c i d)
        have HA := Lib.hid (at_new w1 C1 I1 D1 : At (w1.alloc (.cells #[.int .u8 C1.toNat, .int .u8 I1.toNat, .string D1] 23)) w1.heap.size C1 I1 D1)
        have HH1 := Lib.hid (HH1.out.alloc HH1.out.size _ : Below w.heap.size w (w1.alloc (.cells #[.int .u8 C1.toNat, .int .u8 I1.toNat, .string D1] 23)))
        go_wp2_with fail
        refine (KR.out _).mono ?_
        rintro e w2 ⟨rfl, hb2⟩
        have HP := Lib.hid (HP.out.callee hb2)
        have HA := Lib.hid (HA.out.callee hb2)
        have HH2 := Lib.hid (HH1.out.trans (hb2.mono HH1.out.size))
        clear hb2
        have HP := Lib.hid (HP.out.alloc _ : At (w2.alloc (.cells #[.int .u8 C1.toNat, .int .u8 I1.toNat, .string D1] 23)) w.heap.size c i d)
        have HA := Lib.hid (HA.out.alloc _ : At (w2.alloc (.cells #[.int .u8 C1.toNat, .int .u8 I1.toNat, .string D1] 23)) w1.heap.size C1 I1 D1)
        have HB := Lib.hid (at_new w2 C1 I1 D1 : At (w2.alloc (.cells #[.int .u8 C1.toNat, .int .u8 I1.toNat, .string D1] 23)) w2.heap.size C1 I1 D1)
        have HH2 := Lib.hid (HH2.out.alloc HH2.out.size _ : Below w.heap.size w (w2.alloc (.cells #[.int .u8 C1.toNat, .int .u8 I1.toNat, .string D1] 23)))
        go_wp2_with fail
        refine (KS.out _).mono ?_
        rintro e w3 ⟨rfl, hb3⟩
        have HP := Lib.hid (HP.out.callee hb3)
        have HA := Lib.hid (HA.out.callee hb3)
        have HB := Lib.hid (HB.out.callee hb3)
        have HH3 := Lib.hid (HH2.out.trans (hb3.mono HH2.out.size))
        clear hb3
        have HP := Lib.hid (HP.out.alloc _ : At (w3.alloc (.cells #[.int .u8 C2.toNat, .int .u8 I2.toNat, .string D2] 23)) w.heap.size c i d)
        have HA := Lib.hid (HA.out.alloc _ : At (w3.alloc (.cells #[.int .u8 C2.toNat, .int .u8 I2.toNat, .string D2] 23)) w1.heap.size C1 I1 D1)
        have HB := Lib.hid (HB.out.alloc _ : At (w3.alloc (.cells #[.int .u8 C2.toNat, .int .u8 I2.toNat, .string D2] 23)) w2.heap.size C1 I1 D1)
        have HC := Lib.hid (at_new w3 C2 I2 D2 : At (w3.alloc (.cells #[.int .u8 C2.toNat, .int .u8 I2.toNat, .string D2] 23)) w3.heap.size C2 I2 D2)
        have HH3 := Lib.hid (HH3.out.alloc HH3.out.size _ : Below w.heap.size w (w3.alloc (.cells #[.int .u8 C2.toNat, .int .u8 I2.toNat, .string D2] 23)))
        go_wp2_with fail
        refine (KT.out _).mono ?_
        rintro e w4 ⟨rfl, hb4⟩
        have HP := Lib.hid (HP.out.callee hb4)
        have HA := Lib.hid (HA.out.callee hb4)
        have HB := Lib.hid (HB.out.callee hb4)
        have HC := Lib.hid (HC.out.callee hb4)
        have HH4 := Lib.hid (HH3.out.trans (hb4.mono HH3.out.size))
        clear hb4
        have HP := Lib.hid (HP.out.alloc _ : At (w4.alloc (.cells #[.int .u8 C2.toNat, .int .u8 I2.toNat, .string D2] 23)) w.heap.size c i d)
        have HA := Lib.hid (HA.out.alloc _ : At (w4.alloc (.cells #[.int .u8 C2.toNat, .int .u8 I2.toNat, .string D2] 23)) w1.heap.size C1 I1 D1)
        have HB := Lib.hid (HB.out.alloc _ : At (w4.alloc (.cells #[.int .u8 C2.toNat, .int .u8 I2.toNat, .string D2] 23)) w2.heap.size C1 I1 D1)
        have HC := Lib.hid (HC.out.alloc _ : At (w4.alloc (.cells #[.int .u8 C2.toNat, .int .u8 I2.toNat, .string D2] 23)) w3.heap.size C2 I2 D2)
        have HX := Lib.hid (at_new w4 C2 I2 D2 : At (w4.alloc (.cells #[.int .u8 C2.toNat, .int .u8 I2.toNat, .string D2] 23)) w4.heap.size C2 I2 D2)
        have HH4 := Lib.hid (HH4.out.alloc HH4.out.size _ : Below w.heap.size w (w4.alloc (.cells #[.int .u8 C2.toNat, .int .u8 I2.toNat, .string D2] 23)))
        have cA0 := HA.out.c0
        have cA1 := HA.out.c1
        have cA2 := HA.out.c2
        have cB0 := HB.out.c0
        have cB1 := HB.out.c1
        have cB2 := HB.out.c2
        have cC0 := HC.out.c0
        have cC1 := HC.out.c1
        have cC2 := HC.out.c2
        have cX0 := HX.out.c0
        have cX1 := HX.out.c1
        have cX2 := HX.out.c2
        have cP0 := HP.out.c0
        have cP1 := HP.out.c1
        have cP2 := HP.out.c2
        go_wp2_with fail
        refine (KA.out _).mono ?_
        rintro e w5 ⟨rfl, hb5⟩
        clear HA
        clear HB
        clear HC
        clear HX
        have HP := Lib.hid (HP.out.callee hb5)
        have HH5 := Lib.hid (HH4.out.trans (hb5.mono HH4.out.size))
        clear hb5
        have cP0 := HP.out.c0
        have cP1 := HP.out.c1
        have cP2 := HP.out.c2
        go_wp2_with fail
        refine (KB.out _).mono ?_
        rintro e w6 ⟨rfl, hb6⟩
        have HP := Lib.hid (HP.out.callee hb6)
        have HH6 := Lib.hid (HH5.out.trans (hb6.mono HH5.out.size))
        clear hb6
        have cP0 := HP.out.c0
        have cP1 := HP.out.c1
        have cP2 := HP.out.c2
        go_wp2_with fail
        refine (KC.out _).mono ?_
        rintro e w7 ⟨rfl, hb7⟩
        have HP := Lib.hid (HP.out.callee hb7)
        have HH7 := Lib.hid (HH6.out.trans (hb7.mono HH6.out.size))
        clear hb7
        have cP0 := HP.out.c0
        have cP1 := HP.out.c1
        have cP2 := HP.out.c2
        go_wp2_with fail
        refine (KD.out _).mono ?_
        rintro e w8 ⟨rfl, hb8⟩
        have HP := Lib.hid (HP.out.callee hb8)
        have HH8 := Lib.hid (HH7.out.trans (hb8.mono HH7.out.size))
        clear hb8
        have cP0 := HP.out.c0
        have cP1 := HP.out.c1
        have cP2 := HP.out.c2
        go_wp2_with fail
        refine (KK.out _).mono ?_
        rintro e w9 ⟨rfl, hb9⟩
        have HP := Lib.hid (HP.out.callee hb9)
        have HH9 := Lib.hid (HH8.out.trans (hb9.mono HH8.out.size))
        clear hb9
        go_wp2_with fail
        refine (alive_any _).mono ?_
        rintro e w10 ⟨rfl, hb10⟩
        have HP := Lib.hid (HP.out.callee hb10)
        have HH10 := Lib.hid (HH9.out.trans (hb10.mono HH9.out.size))
        clear hb10
        go_wp2
        go_ret
        exact ⟨rfl, HH10.out⟩
      · have HH0 := Lib.hid (Below.refl w.heap.size w)
        have HP := Lib.hid (at_new w c i d : At (w.alloc (.cells #[.int .u8 c.toNat, .int .u8 i.toNat, .string d] 23)) w.heap.size c i d)
        have HH0 := Lib.hid (HH0.out.alloc HH0.out.size _ : Below w.heap.size w (w.alloc (.cells #[.int .u8 c.toNat, .int .u8 i.toNat, .string d] 23)))
        have KQ := Lib.hid (fun w => request_any id n s w (by unfold maxLen; omega) (by unfold maxLen; omega))
        have KR := Lib.hid (fun w => rrequest_any id n s w (by unfold maxLen; omega) (by unfold maxLen; omega))
        have KS := Lib.hid (fun w => answer_any id v s w (by unfold maxLen; omega))
        have KT := Lib.hid (fun w => ranswer_any id v s w (by unfold maxLen; omega))
        unfold pkV at KQ KR KS KT
        generalize pkB [n, s] 1 = C1 at KQ KR KS KT
        generalize pkB [n, s] id = I1 at KQ KR KS KT
        generalize joinS [n, s] = D1 at KQ KR KS KT
        generalize joinE [n, s] = E1 at KQ KR KS KT
        generalize pkB [s] (if v = true then 2 else 3) = C2 at KQ KR KS KT
        generalize pkB [s] id = I2 at KQ KR KS KT
        generalize joinS [s] = D2 at KQ KR KS KT
        generalize joinE [s] = E2 at KQ KR KS KT
        have KA := Lib.hid (fun w => asked_any c i d w (by unfold maxLen; omega))
        have KB := Lib.hid (fun w => rasked_any c i d w (by unfold maxLen; omega))
        have KC := Lib.hid (fun w => answered_any c i d w (by unfold maxLen; omega))
        have KD := Lib.hid (fun w => ranswered_any c i d w (by unfold maxLen; omega))
        have KK := Lib.hid (fun w => check_any c i d n s w (by unfold maxLen; omega))
        unfold asV at KA KB
        unfold anV at KC KD
        unfold ckB at KK
        rw [hE, hx, hy] at KA KB KK
        generalize anW c d = v3 at KC KD
        generalize anT c d = m3 at KC KD
        generalize anE c d = E3 at KC KD
        clear hE hx hy
        have hq0 : ∀ W, (Op.equalIn 10000 23 (.agg #[.int .u8 C1.toNat, .int .u8 I1.toNat, .string D1]) (.agg #[.int .u8 C1.toNat, .int .u8 I1.toNat, .string D1])).run Try.prog W = .ok true W := pk_eq (c := C1) (c' := C1) (i := I1) (i' := I1) (s := D1) (s' := D1) (pk_same _ _ _)
        have hq1 : ∀ W, (binOp .eql 23 (.agg #[.int .u8 C1.toNat, .int .u8 I1.toNat, .string D1]) (.agg #[.int .u8 C1.toNat, .int .u8 I1.toNat, .string D1])).run Try.prog W = .ok (.bool true) W := pk_eql (c := C1) (c' := C1) (i := I1) (i' := I1) (s := D1) (s' := D1) (pk_same _ _ _)
        have hq2 : ∀ W, (binOp .neq 23 (.agg #[.int .u8 C1.toNat, .int .u8 I1.toNat, .string D1]) (.agg #[.int .u8 C1.toNat, .int .u8 I1.toNat, .string D1])).run Try.prog W = .ok (.bool false) W := pk_neq (c := C1) (c' := C1) (i := I1) (i' := I1) (s := D1) (s' := D1) (pk_same _ _ _)
        have hr0 : ∀ W, (Op.equalIn 10000 23 (.agg #[.int .u8 C2.toNat, .int .u8 I2.toNat, .string D2]) (.agg #[.int .u8 C2.toNat, .int .u8 I2.toNat, .string D2])).run Try.prog W = .ok true W := pk_eq (c := C2) (c' := C2) (i := I2) (i' := I2) (s := D2) (s' := D2) (pk_same _ _ _)
        have hr1 : ∀ W, (binOp .eql 23 (.agg #[.int .u8 C2.toNat, .int .u8 I2.toNat, .string D2]) (.agg #[.int .u8 C2.toNat, .int .u8 I2.toNat, .string D2])).run Try.prog W = .ok (.bool true) W := pk_eql (c := C2) (c' := C2) (i := I2) (i' := I2) (s := D2) (s' := D2) (pk_same _ _ _)
        have hr2 : ∀ W, (binOp .neq 23 (.agg #[.int .u8 C2.toNat, .int .u8 I2.toNat, .string D2]) (.agg #[.int .u8 C2.toNat, .int .u8 I2.toNat, .string D2])).run Try.prog W = .ok (.bool false) W := pk_neq (c := C2) (c' := C2) (i := I2) (i' := I2) (s := D2) (s' := D2) (pk_same _ _ _)
        have b1 := beq_self x
        have b2 := beq_self y
        have b3 := beq_self m3
        have b4 : (v3 == v3) = true := by simp
        have b5 : (E == E) = true := by simp
        have b6 : (E3 == E3) = true := by simp
        subst h0
        have k1 := str_eq x n
        rw [decide_eq_false h1] at k1
        rw [decide_eq_false (fun e => h1 e.2.1)] at KK
        clear h1
        go_enter Try.func3, Try.ntmps3
        go_wp2_with fail
        refine (KQ.out _).mono ?_
        rintro e w1 ⟨rfl, hb1⟩
        have HP := Lib.hid (HP.out.callee hb1)
        have HH1 := Lib.hid (HH0.out.trans (hb1.mono HH0.out.size))
        clear hb1
        have HP := Lib.hid (HP.out.alloc _ : At (w1.alloc (.cells #[.int .u8 C1.toNat, .int .u8 I1.toNat, .string D1] 23)) w.heap.size c i d)
        have HA := Lib.hid (at_new w1 C1 I1 D1 : At (w1.alloc (.cells #[.int .u8 C1.toNat, .int .u8 I1.toNat, .string D1] 23)) w1.heap.size C1 I1 D1)
        have HH1 := Lib.hid (HH1.out.alloc HH1.out.size _ : Below w.heap.size w (w1.alloc (.cells #[.int .u8 C1.toNat, .int .u8 I1.toNat, .string D1] 23)))
        go_wp2_with fail
        refine (KR.out _).mono ?_
        rintro e w2 ⟨rfl, hb2⟩
        have HP := Lib.hid (HP.out.callee hb2)
        have HA := Lib.hid (HA.out.callee hb2)
        have HH2 := Lib.hid (HH1.out.trans (hb2.mono HH1.out.size))
        clear hb2
        have HP := Lib.hid (HP.out.alloc _ : At (w2.alloc (.cells #[.int .u8 C1.toNat, .int .u8 I1.toNat, .string D1] 23)) w.heap.size c i d)
        have HA := Lib.hid (HA.out.alloc _ : At (w2.alloc (.cells #[.int .u8 C1.toNat, .int .u8 I1.toNat, .string D1] 23)) w1.heap.size C1 I1 D1)
        have HB := Lib.hid (at_new w2 C1 I1 D1 : At (w2.alloc (.cells #[.int .u8 C1.toNat, .int .u8 I1.toNat, .string D1] 23)) w2.heap.size C1 I1 D1)
        have HH2 := Lib.hid (HH2.out.alloc HH2.out.size _ : Below w.heap.size w (w2.alloc (.cells #[.int .u8 C1.toNat, .int .u8 I1.toNat, .string D1] 23)))
        go_wp2_with fail
        refine (KS.out _).mono ?_
        rintro e w3 ⟨rfl, hb3⟩
        have HP := Lib.hid (HP.out.callee hb3)
        have HA := Lib.hid (HA.out.callee hb3)
        have HB := Lib.hid (HB.out.callee hb3)
        have HH3 := Lib.hid (HH2.out.trans (hb3.mono HH2.out.size))
        clear hb3
        have HP := Lib.hid (HP.out.alloc _ : At (w3.alloc (.cells #[.int .u8 C2.toNat, .int .u8 I2.toNat, .string D2] 23)) w.heap.size c i d)
        have HA := Lib.hid (HA.out.alloc _ : At (w3.alloc (.cells #[.int .u8 C2.toNat, .int .u8 I2.toNat, .string D2] 23)) w1.heap.size C1 I1 D1)
        have HB := Lib.hid (HB.out.alloc _ : At (w3.alloc (.cells #[.int .u8 C2.toNat, .int .u8 I2.toNat, .string D2] 23)) w2.heap.size C1 I1 D1)
        have HC := Lib.hid (at_new w3 C2 I2 D2 : At (w3.alloc (.cells #[.int .u8 C2.toNat, .int .u8 I2.toNat, .string D2] 23)) w3.heap.size C2 I2 D2)
        have HH3 := Lib.hid (HH3.out.alloc HH3.out.size _ : Below w.heap.size w (w3.alloc (.cells #[.int .u8 C2.toNat, .int .u8 I2.toNat, .string D2] 23)))
        go_wp2_with fail
        refine (KT.out _).mono ?_
        rintro e w4 ⟨rfl, hb4⟩
        have HP := Lib.hid (HP.out.callee hb4)
        have HA := Lib.hid (HA.out.callee hb4)
        have HB := Lib.hid (HB.out.callee hb4)
        have HC := Lib.hid (HC.out.callee hb4)
        have HH4 := Lib.hid (HH3.out.trans (hb4.mono HH3.out.size))
        clear hb4
        have HP := Lib.hid (HP.out.alloc _ : At (w4.alloc (.cells #[.int .u8 C2.toNat, .int .u8 I2.toNat, .string D2] 23)) w.heap.size c i d)
        have HA := Lib.hid (HA.out.alloc _ : At (w4.alloc (.cells #[.int .u8 C2.toNat, .int .u8 I2.toNat, .string D2] 23)) w1.heap.size C1 I1 D1)
        have HB := Lib.hid (HB.out.alloc _ : At (w4.alloc (.cells #[.int .u8 C2.toNat, .int .u8 I2.toNat, .string D2] 23)) w2.heap.size C1 I1 D1)
        have HC := Lib.hid (HC.out.alloc _ : At (w4.alloc (.cells #[.int .u8 C2.toNat, .int .u8 I2.toNat, .string D2] 23)) w3.heap.size C2 I2 D2)
        have HX := Lib.hid (at_new w4 C2 I2 D2 : At (w4.alloc (.cells #[.int .u8 C2.toNat, .int .u8 I2.toNat, .string D2] 23)) w4.heap.size C2 I2 D2)
        have HH4 := Lib.hid (HH4.out.alloc HH4.out.size _ : Below w.heap.size w (w4.alloc (.cells #[.int .u8 C2.toNat, .int .u8 I2.toNat, .string D2] 23)))
        have cA0 := HA.out.c0
        have cA1 := HA.out.c1
        have cA2 := HA.out.c2
        have cB0 := HB.out.c0
        have cB1 := HB.out.c1
        have cB2 := HB.out.c2
        have cC0 := HC.out.c0
        have cC1 := HC.out.c1
        have cC2 := HC.out.c2
        have cX0 := HX.out.c0
        have cX1 := HX.out.c1
        have cX2 := HX.out.c2
        have cP0 := HP.out.c0
        have cP1 := HP.out.c1
        have cP2 := HP.out.c2
        go_wp2_with fail
        refine (KA.out _).mono ?_
        rintro e w5 ⟨rfl, hb5⟩
        clear HA
        clear HB
        clear HC
        clear HX
        have HP := Lib.hid (HP.out.callee hb5)
        have HH5 := Lib.hid (HH4.out.trans (hb5.mono HH4.out.size))
        clear hb5
        have cP0 := HP.out.c0
        have cP1 := HP.out.c1
        have cP2 := HP.out.c2
        go_wp2_with fail
        refine (KB.out _).mono ?_
        rintro e w6 ⟨rfl, hb6⟩
        have HP := Lib.hid (HP.out.callee hb6)
        have HH6 := Lib.hid (HH5.out.trans (hb6.mono HH5.out.size))
        clear hb6
        have cP0 := HP.out.c0
        have cP1 := HP.out.c1
        have cP2 := HP.out.c2
        go_wp2_with fail
        refine (KC.out _).mono ?_
        rintro e w7 ⟨rfl, hb7⟩
        have HP := Lib.hid (HP.out.callee hb7)
        have HH7 := Lib.hid (HH6.out.trans (hb7.mono HH6.out.size))
        clear hb7
        have cP0 := HP.out.c0
        have cP1 := HP.out.c1
        have cP2 := HP.out.c2
        go_wp2_with fail
        refine (KD.out _).mono ?_
        rintro e w8 ⟨rfl, hb8⟩
        have HP := Lib.hid (HP.out.callee hb8)
        have HH8 := Lib.hid (HH7.out.trans (hb8.mono HH7.out.size))
        clear hb8
        have cP0 := HP.out.c0
        have cP1 := HP.out.c1
        have cP2 := HP.out.c2
        go_wp2_with fail
        refine (KK.out _).mono ?_
        rintro e w9 ⟨rfl, hb9⟩
        have HP := Lib.hid (HP.out.callee hb9)
        have HH9 := Lib.hid (HH8.out.trans (hb9.mono HH8.out.size))
        clear hb9
        go_wp2_with fail
        refine (alive_any _).mono ?_
        rintro e w10 ⟨rfl, hb10⟩
        have HP := Lib.hid (HP.out.callee hb10)
        have HH10 := Lib.hid (HH9.out.trans (hb10.mono HH9.out.size))
        clear hb10
        go_wp2
        go_ret
        exact ⟨rfl, HH10.out⟩
    · have HH0 := Lib.hid (Below.refl w.heap.size w)
      have HP := Lib.hid (at_new w c i d : At (w.alloc (.cells #[.int .u8 c.toNat, .int .u8 i.toNat, .string d] 23)) w.heap.size c i d)
      have HH0 := Lib.hid (HH0.out.alloc HH0.out.size _ : Below w.heap.size w (w.alloc (.cells #[.int .u8 c.toNat, .int .u8 i.toNat, .string d] 23)))
      have KQ := Lib.hid (fun w => request_any id n s w (by unfold maxLen; omega) (by unfold maxLen; omega))
      have KR := Lib.hid (fun w => rrequest_any id n s w (by unfold maxLen; omega) (by unfold maxLen; omega))
      have KS := Lib.hid (fun w => answer_any id v s w (by unfold maxLen; omega))
      have KT := Lib.hid (fun w => ranswer_any id v s w (by unfold maxLen; omega))
      unfold pkV at KQ KR KS KT
      generalize pkB [n, s] 1 = C1 at KQ KR KS KT
      generalize pkB [n, s] id = I1 at KQ KR KS KT
      generalize joinS [n, s] = D1 at KQ KR KS KT
      generalize joinE [n, s] = E1 at KQ KR KS KT
      generalize pkB [s] (if v = true then 2 else 3) = C2 at KQ KR KS KT
      generalize pkB [s] id = I2 at KQ KR KS KT
      generalize joinS [s] = D2 at KQ KR KS KT
      generalize joinE [s] = E2 at KQ KR KS KT
      have KA := Lib.hid (fun w => asked_any c i d w (by unfold maxLen; omega))
      have KB := Lib.hid (fun w => rasked_any c i d w (by unfold maxLen; omega))
      have KC := Lib.hid (fun w => answered_any c i d w (by unfold maxLen; omega))
      have KD := Lib.hid (fun w => ranswered_any c i d w (by unfold maxLen; omega))
      have KK := Lib.hid (fun w => check_any c i d n s w (by unfold maxLen; omega))
      unfold asV at KA KB
      unfold anV at KC KD
      unfold ckB at KK
      rw [hE, hx, hy] at KA KB KK
      generalize anW c d = v3 at KC KD
      generalize anT c d = m3 at KC KD
      generalize anE c d = E3 at KC KD
      clear hE hx hy
      have hq0 : ∀ W, (Op.equalIn 10000 23 (.agg #[.int .u8 C1.toNat, .int .u8 I1.toNat, .string D1]) (.agg #[.int .u8 C1.toNat, .int .u8 I1.toNat, .string D1])).run Try.prog W = .ok true W := pk_eq (c := C1) (c' := C1) (i := I1) (i' := I1) (s := D1) (s' := D1) (pk_same _ _ _)
      have hq1 : ∀ W, (binOp .eql 23 (.agg #[.int .u8 C1.toNat, .int .u8 I1.toNat, .string D1]) (.agg #[.int .u8 C1.toNat, .int .u8 I1.toNat, .string D1])).run Try.prog W = .ok (.bool true) W := pk_eql (c := C1) (c' := C1) (i := I1) (i' := I1) (s := D1) (s' := D1) (pk_same _ _ _)
      have hq2 : ∀ W, (binOp .neq 23 (.agg #[.int .u8 C1.toNat, .int .u8 I1.toNat, .string D1]) (.agg #[.int .u8 C1.toNat, .int .u8 I1.toNat, .string D1])).run Try.prog W = .ok (.bool false) W := pk_neq (c := C1) (c' := C1) (i := I1) (i' := I1) (s := D1) (s' := D1) (pk_same _ _ _)
      have hr0 : ∀ W, (Op.equalIn 10000 23 (.agg #[.int .u8 C2.toNat, .int .u8 I2.toNat, .string D2]) (.agg #[.int .u8 C2.toNat, .int .u8 I2.toNat, .string D2])).run Try.prog W = .ok true W := pk_eq (c := C2) (c' := C2) (i := I2) (i' := I2) (s := D2) (s' := D2) (pk_same _ _ _)
      have hr1 : ∀ W, (binOp .eql 23 (.agg #[.int .u8 C2.toNat, .int .u8 I2.toNat, .string D2]) (.agg #[.int .u8 C2.toNat, .int .u8 I2.toNat, .string D2])).run Try.prog W = .ok (.bool true) W := pk_eql (c := C2) (c' := C2) (i := I2) (i' := I2) (s := D2) (s' := D2) (pk_same _ _ _)
      have hr2 : ∀ W, (binOp .neq 23 (.agg #[.int .u8 C2.toNat, .int .u8 I2.toNat, .string D2]) (.agg #[.int .u8 C2.toNat, .int .u8 I2.toNat, .string D2])).run Try.prog W = .ok (.bool false) W := pk_neq (c := C2) (c' := C2) (i := I2) (i' := I2) (s := D2) (s' := D2) (pk_same _ _ _)
      have b1 := beq_self x
      have b2 := beq_self y
      have b3 := beq_self m3
      have b4 : (v3 == v3) = true := by simp
      have b5 : (E == E) = true := by simp
      have b6 : (E3 == E3) = true := by simp
      have k1 : (E == 0) = false := by rw [beq_eq_false_iff_ne]; exact h0
      rw [decide_eq_false (fun e => h0 e.1)] at KK
      clear h0
      go_enter Try.func3, Try.ntmps3
      go_wp2_with fail
      refine (KQ.out _).mono ?_
      rintro e w1 ⟨rfl, hb1⟩
      have HP := Lib.hid (HP.out.callee hb1)
      have HH1 := Lib.hid (HH0.out.trans (hb1.mono HH0.out.size))
      clear hb1
      have HP := Lib.hid (HP.out.alloc _ : At (w1.alloc (.cells #[.int .u8 C1.toNat, .int .u8 I1.toNat, .string D1] 23)) w.heap.size c i d)
      have HA := Lib.hid (at_new w1 C1 I1 D1 : At (w1.alloc (.cells #[.int .u8 C1.toNat, .int .u8 I1.toNat, .string D1] 23)) w1.heap.size C1 I1 D1)
      have HH1 := Lib.hid (HH1.out.alloc HH1.out.size _ : Below w.heap.size w (w1.alloc (.cells #[.int .u8 C1.toNat, .int .u8 I1.toNat, .string D1] 23)))
      go_wp2_with fail
      refine (KR.out _).mono ?_
      rintro e w2 ⟨rfl, hb2⟩
      have HP := Lib.hid (HP.out.callee hb2)
      have HA := Lib.hid (HA.out.callee hb2)
      have HH2 := Lib.hid (HH1.out.trans (hb2.mono HH1.out.size))
      clear hb2
      have HP := Lib.hid (HP.out.alloc _ : At (w2.alloc (.cells #[.int .u8 C1.toNat, .int .u8 I1.toNat, .string D1] 23)) w.heap.size c i d)
      have HA := Lib.hid (HA.out.alloc _ : At (w2.alloc (.cells #[.int .u8 C1.toNat, .int .u8 I1.toNat, .string D1] 23)) w1.heap.size C1 I1 D1)
      have HB := Lib.hid (at_new w2 C1 I1 D1 : At (w2.alloc (.cells #[.int .u8 C1.toNat, .int .u8 I1.toNat, .string D1] 23)) w2.heap.size C1 I1 D1)
      have HH2 := Lib.hid (HH2.out.alloc HH2.out.size _ : Below w.heap.size w (w2.alloc (.cells #[.int .u8 C1.toNat, .int .u8 I1.toNat, .string D1] 23)))
      go_wp2_with fail
      refine (KS.out _).mono ?_
      rintro e w3 ⟨rfl, hb3⟩
      have HP := Lib.hid (HP.out.callee hb3)
      have HA := Lib.hid (HA.out.callee hb3)
      have HB := Lib.hid (HB.out.callee hb3)
      have HH3 := Lib.hid (HH2.out.trans (hb3.mono HH2.out.size))
      clear hb3
      have HP := Lib.hid (HP.out.alloc _ : At (w3.alloc (.cells #[.int .u8 C2.toNat, .int .u8 I2.toNat, .string D2] 23)) w.heap.size c i d)
      have HA := Lib.hid (HA.out.alloc _ : At (w3.alloc (.cells #[.int .u8 C2.toNat, .int .u8 I2.toNat, .string D2] 23)) w1.heap.size C1 I1 D1)
      have HB := Lib.hid (HB.out.alloc _ : At (w3.alloc (.cells #[.int .u8 C2.toNat, .int .u8 I2.toNat, .string D2] 23)) w2.heap.size C1 I1 D1)
      have HC := Lib.hid (at_new w3 C2 I2 D2 : At (w3.alloc (.cells #[.int .u8 C2.toNat, .int .u8 I2.toNat, .string D2] 23)) w3.heap.size C2 I2 D2)
      have HH3 := Lib.hid (HH3.out.alloc HH3.out.size _ : Below w.heap.size w (w3.alloc (.cells #[.int .u8 C2.toNat, .int .u8 I2.toNat, .string D2] 23)))
      go_wp2_with fail
      refine (KT.out _).mono ?_
      rintro e w4 ⟨rfl, hb4⟩
      have HP := Lib.hid (HP.out.callee hb4)
      have HA := Lib.hid (HA.out.callee hb4)
      have HB := Lib.hid (HB.out.callee hb4)
      have HC := Lib.hid (HC.out.callee hb4)
      have HH4 := Lib.hid (HH3.out.trans (hb4.mono HH3.out.size))
      clear hb4
      have HP := Lib.hid (HP.out.alloc _ : At (w4.alloc (.cells #[.int .u8 C2.toNat, .int .u8 I2.toNat, .string D2] 23)) w.heap.size c i d)
      have HA := Lib.hid (HA.out.alloc _ : At (w4.alloc (.cells #[.int .u8 C2.toNat, .int .u8 I2.toNat, .string D2] 23)) w1.heap.size C1 I1 D1)
      have HB := Lib.hid (HB.out.alloc _ : At (w4.alloc (.cells #[.int .u8 C2.toNat, .int .u8 I2.toNat, .string D2] 23)) w2.heap.size C1 I1 D1)
      have HC := Lib.hid (HC.out.alloc _ : At (w4.alloc (.cells #[.int .u8 C2.toNat, .int .u8 I2.toNat, .string D2] 23)) w3.heap.size C2 I2 D2)
      have HX := Lib.hid (at_new w4 C2 I2 D2 : At (w4.alloc (.cells #[.int .u8 C2.toNat, .int .u8 I2.toNat, .string D2] 23)) w4.heap.size C2 I2 D2)
      have HH4 := Lib.hid (HH4.out.alloc HH4.out.size _ : Below w.heap.size w (w4.alloc (.cells #[.int .u8 C2.toNat, .int .u8 I2.toNat, .string D2] 23)))
      have cA0 := HA.out.c0
      have cA1 := HA.out.c1
      have cA2 := HA.out.c2
      have cB0 := HB.out.c0
      have cB1 := HB.out.c1
      have cB2 := HB.out.c2
      have cC0 := HC.out.c0
      have cC1 := HC.out.c1
      have cC2 := HC.out.c2
      have cX0 := HX.out.c0
      have cX1 := HX.out.c1
      have cX2 := HX.out.c2
      have cP0 := HP.out.c0
      have cP1 := HP.out.c1
      have cP2 := HP.out.c2
      go_wp2_with fail
      refine (KA.out _).mono ?_
      rintro e w5 ⟨rfl, hb5⟩
      clear HA
      clear HB
      clear HC
      clear HX
      have HP := Lib.hid (HP.out.callee hb5)
      have HH5 := Lib.hid (HH4.out.trans (hb5.mono HH4.out.size))
      clear hb5
      have cP0 := HP.out.c0
      have cP1 := HP.out.c1
      have cP2 := HP.out.c2
      go_wp2_with fail
      refine (KB.out _).mono ?_
      rintro e w6 ⟨rfl, hb6⟩
      have HP := Lib.hid (HP.out.callee hb6)
      have HH6 := Lib.hid (HH5.out.trans (hb6.mono HH5.out.size))
      clear hb6
      have cP0 := HP.out.c0
      have cP1 := HP.out.c1
      have cP2 := HP.out.c2
      go_wp2_with fail
      refine (KC.out _).mono ?_
      rintro e w7 ⟨rfl, hb7⟩
      have HP := Lib.hid (HP.out.callee hb7)
      have HH7 := Lib.hid (HH6.out.trans (hb7.mono HH6.out.size))
      clear hb7
      have cP0 := HP.out.c0
      have cP1 := HP.out.c1
      have cP2 := HP.out.c2
      go_wp2_with fail
      refine (KD.out _).mono ?_
      rintro e w8 ⟨rfl, hb8⟩
      have HP := Lib.hid (HP.out.callee hb8)
      have HH8 := Lib.hid (HH7.out.trans (hb8.mono HH7.out.size))
      clear hb8
      have cP0 := HP.out.c0
      have cP1 := HP.out.c1
      have cP2 := HP.out.c2
      go_wp2_with fail
      refine (KK.out _).mono ?_
      rintro e w9 ⟨rfl, hb9⟩
      have HP := Lib.hid (HP.out.callee hb9)
      have HH9 := Lib.hid (HH8.out.trans (hb9.mono HH8.out.size))
      clear hb9
      go_wp2_with fail
      refine (alive_any _).mono ?_
      rintro e w10 ⟨rfl, hb10⟩
      have HP := Lib.hid (HP.out.callee hb10)
      have HH10 := Lib.hid (HH9.out.trans (hb10.mono HH9.out.size))
      clear hb10
      go_wp2
      go_ret
      exact ⟨rfl, HH10.out⟩

set_option maxRecDepth 100000 in
theorem lifted (os : Os) (started : os.Started) (H : Type) (enc : TypeId × Value → H) :
    ReturnsInHanded {} Try.checked os 3 .any (Rows.papTellsSpec.pre6 enc Try.prog Try.f3 Rows.papTellsRow.domain false) (Rows.papTellsSpec.post enc Try.prog Try.f3 false true false false) := by
  refine returnsInHanded_of_change_sized (C := Try.checked) own started (by kernel_rfl) Try.func3
    (ChangeSpec.witness6 (enc := enc) (C := Try.checked) false ⟨#[], #[.int .u8 0, .string ByteArray.empty, .string ByteArray.empty, .bool false, .agg #[.int .u8 0, .int .u8 0, .string ByteArray.empty]], []⟩ 8 (by kernel_rfl) (by kernel_rfl) (by kernel_rfl) (by kernel_rfl)) ?_
  intro W base args ds gs before hval0 hW hcnd hsz0 _
  have hsz : (DataW.weightsEach Try.prog (Try.f3.params.toList ++ Rows.papTellsSpec.plain.varTypes Try.prog) (ds ++ gs)).all (· ≤ reachBytes) = true := hsz0
  have hval : ∀ (j : Nat) t v, Try.f3.params[j]? = some t → args[j]? = some v → Value.okWide Try.prog W .any base t v := hval0
  have hW' := hW
  obtain ⟨p, q, hA0, hV, rfl, hfz, hnd⟩ := hW
  have hlt := hW'.lt
  have hA : DataW.TrodAll enc Try.prog W 0 (fun _ => true) true Try.f3.params.toList args.toList ds p := hA0
  rw [Try.params3] at hA hval hsz
  obtain ⟨v0, vs0, d0, ds0, p0, q0, hargs, rfl, rfl, h0, r0⟩ := trodAll_cons hA
  obtain ⟨v1, vs1, d1, ds1, p1, q1, rfl, rfl, rfl, h1, r1⟩ := trodAll_cons r0
  obtain ⟨v2, vs2, d2, ds2, p2, q2, rfl, rfl, rfl, h2, r2⟩ := trodAll_cons r1
  obtain ⟨v3, vs3, d3, ds3, p3, q3, rfl, rfl, rfl, h3, r3⟩ := trodAll_cons r2
  obtain ⟨v4, vs4, d4, ds4, p4, q4, rfl, rfl, rfl, h4, r4⟩ := trodAll_cons r3
  obtain ⟨rfl, rfl, rfl⟩ := trodAll_nil r4
  obtain rfl : args = #[v0, v1, v2, v3, v4] := by cases args; simp_all
  obtain ⟨rfl, rfl⟩ := trodVars_none hV
  obtain ⟨z0, rfl, rfl, rfl, w0⟩ := open_int Try.underlying5 (hval 0 5 v0 rfl rfl) h0
  have b0 := bounds_u8 w0
  obtain ⟨a0, rfl⟩ := u8_of (z := z0) (by omega) (by omega)
  obtain ⟨a1, rfl, rfl, rfl, w1⟩ := open_string Try.underlying9 (hval 1 9 v1 rfl rfl) h1
  obtain ⟨a2, rfl, rfl, rfl, w2⟩ := open_string Try.underlying9 (hval 2 9 v2 rfl rfl) h2
  obtain ⟨a3, rfl, rfl, rfl⟩ := open_bool Try.underlying4 (hval 3 4 v3 rfl rfl) h3
  obtain ⟨c4, i4, a4, rfl, z4⟩ := pk3_of Try.underlying23 (by kernel_rfl) (by kernel_rfl) Try.underlying5 Try.underlying5 Try.underlying9 (hval 4 23 v4 rfl rfl) h4 (fun n hn => of_decide_eq_true (List.all_eq_true.1 hsz n (DataW.weights_mem_each (j := 4) (t := 23) rfl rfl n hn)))
  have z1 : a1.size ≤ 140737488351232 := by have h := sized_string hsz (j := 1) (t := 9) rfl rfl; rw [Array.length_toList] at h; exact h
  have z2 : a2.size ≤ 140737488351232 := by have h := sized_string hsz (j := 2) (t := 9) rfl rfl; rw [Array.length_toList] at h; exact h
  clear hA0 hval0 hsz0
  exact (walk a0 c4 i4 a1 a2 a4 a3 z1 z2 z4 W).mono fun e W' ⟨he, hb⟩ => ⟨_, he, law_post (t := 4) laidOut (by kernel_rfl) rfl rfl Try.underlying4 ⟨rfl, rfl, rfl⟩ hW' hb⟩

theorem over : Rows.papTellsRow.holds Try.pinned (OpenSpec.ofChange Rows.papTellsSpec) :=
  OpenClaim.holds_of_wide 3 Try.f3 rfl rfl rfl rfl rfl rfl rfl ⟨rfl, rfl, rfl, rfl, rfl⟩ rfl rfl rfl rfl rfl (by kernel_rfl) Try.func3 (by kernel_rfl)
    (of_decide_eq_true (by kernel_rfl)) (by unfold Func.isWrapper; first | (rw [if_pos (by decide +kernel)]; kernel_rfl) | (rw [if_neg (by decide +kernel)]; exact ⟨rfl, rfl⟩))
    (fun os started H enc _ => lifted os started H enc)

theorem proved : Rows.PapTellsSaid :=
  over
#print axioms proved
end Go.Proofs.Ythddfpmjjbpkgaa.PapTells
