/- PROVED: 'halyardlaw18.PapBack' returns true for every identifier, every two texts, each answer and every packet, and leaves them as they were. No condition. -/
import Derived.Test.YthddfpmjjbpkgaaPapF
import Derived.Test.YthddfpmjjbpkgaaPapG
import Derived.Test.YthddfpmjjbpkgaaPk3
import Derived.Test.YthddfpmjjbpkgaaLaw
import Derived.Test.YthddfpmjjbpkgaaRows
import Derived.SizedLaws
import Derived.StillTailTactics
namespace Go.Proofs.Ythddfpmjjbpkgaa.PapBack
open Go.ChangeShapes Go.WideShapes Go.ChangeAt Go.RowKit Go.Proofs.Ythddfpmjjbpkgaa.Oct Go.Proofs.Ythddfpmjjbpkgaa.Row Go.Proofs.Ythddfpmjjbpkgaa.Pkt Go.Proofs.Ythddfpmjjbpkgaa.Pap Go.Proofs.Ythddfpmjjbpkgaa.Mem Go.Proofs.Ythddfpmjjbpkgaa.Law
open Go.ChangeMaps (open_string shut_string)

set_option maxHeartbeats 8000000 in
set_option maxRecDepth 100000 in
theorem w11_ask_true (id c i : UInt8) (n s d : ByteArray) (w : World) (hn : n.size ≤ 4096) (hs : s.size ≤ 4096) (hd : d.size ≤ 4096) (hall : (n.size : Int) + (s.size : Int) + (d.size : Int) ≤ 4096) (h1 : joinE [n, s] = 0) (h2 : joinE [s] = 0) (h3 : asE c d = 0) :
    Calls Try.prog 4 #[.int .u8 id.toNat, .string n, .string s, .bool true, .agg #[.int .u8 c.toNat, .int .u8 i.toNat, .string d]] w fun e w' => e = .returned (.bool true) ∧ Below w.heap.size w w' := by
  have HH0 := Lib.hid (Below.refl w.heap.size w)
  have HP := Lib.hid (at_new w c i d : At (w.alloc (.cells #[.int .u8 c.toNat, .int .u8 i.toNat, .string d] 23)) w.heap.size c i d)
  have HH0 := Lib.hid (HH0.out.alloc HH0.out.size _ : Below w.heap.size w (w.alloc (.cells #[.int .u8 c.toNat, .int .u8 i.toNat, .string d] 23)))
  have KQ := Lib.hid (fun w => request_any id n s w (by unfold maxLen; omega) (by unfold maxLen; omega))
  have KS := Lib.hid (fun w => answer_any id true s w (by unfold maxLen; omega))
  have z1 := join_size h1
  have KA := Lib.hid (fun w => asked_any 1 id (joinS [n, s]) w (by unfold maxLen; simp at z1; omega))
  have KK := Lib.hid (fun w => check_any 1 id (joinS [n, s]) n s w (by unfold maxLen; simp at z1; omega))
  rw [(as_back h1).1] at KA
  rw [ck_same h1, decide_eq_true ⟨rfl, rfl⟩] at KK
  rw [pkV_ok h1] at KQ
  generalize joinS [n, s] = D1 at *
  have b1 := beq_self n
  have b2 := beq_self s
  have b3 : ((id.toNat : Int) == id.toNat) = true := by simp
  simp only [if_true, Bool.false_eq_true, if_false] at KS
  have z2 := join_size h2
  have KN := Lib.hid (fun w => answered_any 2 id (joinS [s]) w (by unfold maxLen; simp at z2; omega))
  rw [an_back (.inl rfl) h2, show decide ((2 : UInt8) = 2) = true from rfl] at KN
  rw [pkV_ok h2] at KS
  generalize joinS [s] = D2 at *
  have b4 := beq_self s
  have KA2 := Lib.hid (fun w => asked_any c i d w (by unfold maxLen; omega))
  have KN2 := Lib.hid (fun w => answered_any c i d w (by unfold maxLen; omega))
  unfold asV at KA2
  unfold anV at KN2
  obtain ⟨hc, hj, hjs, hx, hy⟩ := as_zero h3
  have h4 : anE c d = 8 := by rw [hc]; rfl
  have h4' := an_non (c := c) (d := d) (by rw [h4]; decide)
  rw [h4, h4'.1, h4'.2] at KN2
  rw [h3] at KA2
  have KP := Lib.hid (fun w => request_any i (asT c d 0) (asT c d 1) w (by unfold maxLen; omega) (by unfold maxLen; omega))
  rw [pkV_ok hj, hjs] at KP
  generalize asT c d 0 = x at *
  generalize asT c d 1 = y at *
  clear hj hjs hx hy h3 h4 h4'
  subst hc
  have hq0 : ∀ W, (Op.equalIn 10000 23 (.agg #[.int .u8 (1 : UInt8).toNat, .int .u8 i.toNat, .string d]) (.agg #[.int .u8 (1 : UInt8).toNat, .int .u8 i.toNat, .string d])).run Try.prog W = .ok true W := pk_eq (c := (1 : UInt8)) (c' := (1 : UInt8)) (i := i) (i' := i) (s := d) (s' := d) (pk_same _ _ _)
  have hq1 : ∀ W, (binOp .eql 23 (.agg #[.int .u8 (1 : UInt8).toNat, .int .u8 i.toNat, .string d]) (.agg #[.int .u8 (1 : UInt8).toNat, .int .u8 i.toNat, .string d])).run Try.prog W = .ok (.bool true) W := pk_eql (c := (1 : UInt8)) (c' := (1 : UInt8)) (i := i) (i' := i) (s := d) (s' := d) (pk_same _ _ _)
  have hq2 : ∀ W, (binOp .neq 23 (.agg #[.int .u8 (1 : UInt8).toNat, .int .u8 i.toNat, .string d]) (.agg #[.int .u8 (1 : UInt8).toNat, .int .u8 i.toNat, .string d])).run Try.prog W = .ok (.bool false) W := pk_neq (c := (1 : UInt8)) (c' := (1 : UInt8)) (i := i) (i' := i) (s := d) (s' := d) (pk_same _ _ _)
  have g1 : ((bOf []).toList == ([] : List UInt8)) = true := by rw [toList_bOf]; rfl
  have g2 : (bOf []).toList.isEmpty = true := no_empty
  have g3 : ¬ 4096 < (n.size : Int) + (s.size : Int) + (d.size : Int) := by omega
  have g4 : ((n.size : Int) + (s.size : Int) + (d.size : Int)) < 9223372036854775808 := by omega
  clear h1 h2
  go_enter Try.func4, Try.ntmps4
  go_wp2_with fail
  refine (KQ.out _).mono ?_
  rintro e w1 ⟨rfl, hb1⟩
  have HP := Lib.hid (HP.out.callee hb1)
  have HH1 := Lib.hid (HH0.out.trans (hb1.mono HH0.out.size))
  clear hb1
  have HP := Lib.hid (HP.out.alloc _ : At (w1.alloc (.cells #[.int .u8 1, .int .u8 id.toNat, .string D1] 23)) w.heap.size (1 : UInt8) i d)
  have HA := Lib.hid (at_new w1 (1 : UInt8) id D1 : At (w1.alloc (.cells #[.int .u8 1, .int .u8 id.toNat, .string D1] 23)) w1.heap.size (1 : UInt8) id D1)
  have HH1 := Lib.hid (HH1.out.alloc HH1.out.size _ : Below w.heap.size w (w1.alloc (.cells #[.int .u8 1, .int .u8 id.toNat, .string D1] 23)))
  have cA0 := HA.out.c0
  have cA1 := HA.out.c1
  have cA2 := HA.out.c2
  go_wp2_with fail
  refine (KA.out _).mono ?_
  rintro e w2 ⟨rfl, hb2⟩
  have HP := Lib.hid (HP.out.callee hb2)
  have HA := Lib.hid (HA.out.callee hb2)
  have HH2 := Lib.hid (HH1.out.trans (hb2.mono HH1.out.size))
  clear hb2
  have cA0 := HA.out.c0
  have cA1 := HA.out.c1
  have cA2 := HA.out.c2
  go_wp2_with fail
  refine (KK.out _).mono ?_
  rintro e w3 ⟨rfl, hb3⟩
  clear HA
  have HP := Lib.hid (HP.out.callee hb3)
  have HH3 := Lib.hid (HH2.out.trans (hb3.mono HH2.out.size))
  clear hb3
  go_wp2_with fail
  refine (KS.out _).mono ?_
  rintro e w4 ⟨rfl, hb4⟩
  have HP := Lib.hid (HP.out.callee hb4)
  have HH4 := Lib.hid (HH3.out.trans (hb4.mono HH3.out.size))
  clear hb4
  have HP := Lib.hid (HP.out.alloc _ : At (w4.alloc (.cells #[.int .u8 2, .int .u8 id.toNat, .string D2] 23)) w.heap.size (1 : UInt8) i d)
  have HB := Lib.hid (at_new w4 (2 : UInt8) id D2 : At (w4.alloc (.cells #[.int .u8 2, .int .u8 id.toNat, .string D2] 23)) w4.heap.size (2 : UInt8) id D2)
  have HH4 := Lib.hid (HH4.out.alloc HH4.out.size _ : Below w.heap.size w (w4.alloc (.cells #[.int .u8 2, .int .u8 id.toNat, .string D2] 23)))
  have cB0 := HB.out.c0
  have cB1 := HB.out.c1
  have cB2 := HB.out.c2
  go_wp2_with fail
  refine (KN.out _).mono ?_
  rintro e w5 ⟨rfl, hb5⟩
  have HP := Lib.hid (HP.out.callee hb5)
  have HB := Lib.hid (HB.out.callee hb5)
  have HH5 := Lib.hid (HH4.out.trans (hb5.mono HH4.out.size))
  clear hb5
  have cB0 := HB.out.c0
  have cB1 := HB.out.c1
  have cB2 := HB.out.c2
  have cP0 := HP.out.c0
  have cP1 := HP.out.c1
  have cP2 := HP.out.c2
  go_wp2_with fail
  refine (KA2.out _).mono ?_
  rintro e w6 ⟨rfl, hb6⟩
  have HP := Lib.hid (HP.out.callee hb6)
  have HB := Lib.hid (HB.out.callee hb6)
  have HH6 := Lib.hid (HH5.out.trans (hb6.mono HH5.out.size))
  clear hb6
  have cP0 := HP.out.c0
  have cP1 := HP.out.c1
  have cP2 := HP.out.c2
  go_wp2_with fail
  refine (KP.out _).mono ?_
  rintro e w7 ⟨rfl, hb7⟩
  have HP := Lib.hid (HP.out.callee hb7)
  have HB := Lib.hid (HB.out.callee hb7)
  have HH7 := Lib.hid (HH6.out.trans (hb7.mono HH6.out.size))
  clear hb7
  have HP := Lib.hid (HP.out.alloc _ : At (w7.alloc (.cells #[.int .u8 1, .int .u8 i.toNat, .string d] 23)) w.heap.size (1 : UInt8) i d)
  have HB := Lib.hid (HB.out.alloc _ : At (w7.alloc (.cells #[.int .u8 1, .int .u8 i.toNat, .string d] 23)) w4.heap.size (2 : UInt8) id D2)
  have HC := Lib.hid (at_new w7 (1 : UInt8) i d : At (w7.alloc (.cells #[.int .u8 1, .int .u8 i.toNat, .string d] 23)) w7.heap.size (1 : UInt8) i d)
  have HH7 := Lib.hid (HH7.out.alloc HH7.out.size _ : Below w.heap.size w (w7.alloc (.cells #[.int .u8 1, .int .u8 i.toNat, .string d] 23)))
  have cP0 := HP.out.c0
  have cP1 := HP.out.c1
  have cP2 := HP.out.c2
  have cC0 := HC.out.c0
  have cC1 := HC.out.c1
  have cC2 := HC.out.c2
  go_wp2_with fail
  refine (KN2.out _).mono ?_
  rintro e w8 ⟨rfl, hb8⟩
  have HP := Lib.hid (HP.out.callee hb8)
  have HB := Lib.hid (HB.out.callee hb8)
  have HC := Lib.hid (HC.out.callee hb8)
  have HH8 := Lib.hid (HH7.out.trans (hb8.mono HH7.out.size))
  clear hb8
  have cP0 := HP.out.c0
  have cP1 := HP.out.c1
  have cP2 := HP.out.c2
  go_wp2_with fail
  refine (alive_any _).mono ?_
  rintro e w9 ⟨rfl, hb9⟩
  have HP := Lib.hid (HP.out.callee hb9)
  have HB := Lib.hid (HB.out.callee hb9)
  have HC := Lib.hid (HC.out.callee hb9)
  have HH9 := Lib.hid (HH8.out.trans (hb9.mono HH8.out.size))
  clear hb9
  go_wp2
  go_ret
  exact ⟨rfl, HH9.out⟩

set_option maxHeartbeats 8000000 in
set_option maxRecDepth 100000 in
theorem w11_ask_false (id c i : UInt8) (n s d : ByteArray) (w : World) (hn : n.size ≤ 4096) (hs : s.size ≤ 4096) (hd : d.size ≤ 4096) (hall : (n.size : Int) + (s.size : Int) + (d.size : Int) ≤ 4096) (h1 : joinE [n, s] = 0) (h2 : joinE [s] = 0) (h3 : asE c d = 0) :
    Calls Try.prog 4 #[.int .u8 id.toNat, .string n, .string s, .bool false, .agg #[.int .u8 c.toNat, .int .u8 i.toNat, .string d]] w fun e w' => e = .returned (.bool true) ∧ Below w.heap.size w w' := by
  have HH0 := Lib.hid (Below.refl w.heap.size w)
  have HP := Lib.hid (at_new w c i d : At (w.alloc (.cells #[.int .u8 c.toNat, .int .u8 i.toNat, .string d] 23)) w.heap.size c i d)
  have HH0 := Lib.hid (HH0.out.alloc HH0.out.size _ : Below w.heap.size w (w.alloc (.cells #[.int .u8 c.toNat, .int .u8 i.toNat, .string d] 23)))
  have KQ := Lib.hid (fun w => request_any id n s w (by unfold maxLen; omega) (by unfold maxLen; omega))
  have KS := Lib.hid (fun w => answer_any id false s w (by unfold maxLen; omega))
  have z1 := join_size h1
  have KA := Lib.hid (fun w => asked_any 1 id (joinS [n, s]) w (by unfold maxLen; simp at z1; omega))
  have KK := Lib.hid (fun w => check_any 1 id (joinS [n, s]) n s w (by unfold maxLen; simp at z1; omega))
  rw [(as_back h1).1] at KA
  rw [ck_same h1, decide_eq_true ⟨rfl, rfl⟩] at KK
  rw [pkV_ok h1] at KQ
  generalize joinS [n, s] = D1 at *
  have b1 := beq_self n
  have b2 := beq_self s
  have b3 : ((id.toNat : Int) == id.toNat) = true := by simp
  simp only [if_true, Bool.false_eq_true, if_false] at KS
  have z2 := join_size h2
  have KN := Lib.hid (fun w => answered_any 3 id (joinS [s]) w (by unfold maxLen; simp at z2; omega))
  rw [an_back (.inr rfl) h2, show decide ((3 : UInt8) = 2) = false from rfl] at KN
  rw [pkV_ok h2] at KS
  generalize joinS [s] = D2 at *
  have b4 := beq_self s
  have KA2 := Lib.hid (fun w => asked_any c i d w (by unfold maxLen; omega))
  have KN2 := Lib.hid (fun w => answered_any c i d w (by unfold maxLen; omega))
  unfold asV at KA2
  unfold anV at KN2
  obtain ⟨hc, hj, hjs, hx, hy⟩ := as_zero h3
  have h4 : anE c d = 8 := by rw [hc]; rfl
  have h4' := an_non (c := c) (d := d) (by rw [h4]; decide)
  rw [h4, h4'.1, h4'.2] at KN2
  rw [h3] at KA2
  have KP := Lib.hid (fun w => request_any i (asT c d 0) (asT c d 1) w (by unfold maxLen; omega) (by unfold maxLen; omega))
  rw [pkV_ok hj, hjs] at KP
  generalize asT c d 0 = x at *
  generalize asT c d 1 = y at *
  clear hj hjs hx hy h3 h4 h4'
  subst hc
  have hq0 : ∀ W, (Op.equalIn 10000 23 (.agg #[.int .u8 (1 : UInt8).toNat, .int .u8 i.toNat, .string d]) (.agg #[.int .u8 (1 : UInt8).toNat, .int .u8 i.toNat, .string d])).run Try.prog W = .ok true W := pk_eq (c := (1 : UInt8)) (c' := (1 : UInt8)) (i := i) (i' := i) (s := d) (s' := d) (pk_same _ _ _)
  have hq1 : ∀ W, (binOp .eql 23 (.agg #[.int .u8 (1 : UInt8).toNat, .int .u8 i.toNat, .string d]) (.agg #[.int .u8 (1 : UInt8).toNat, .int .u8 i.toNat, .string d])).run Try.prog W = .ok (.bool true) W := pk_eql (c := (1 : UInt8)) (c' := (1 : UInt8)) (i := i) (i' := i) (s := d) (s' := d) (pk_same _ _ _)
  have hq2 : ∀ W, (binOp .neq 23 (.agg #[.int .u8 (1 : UInt8).toNat, .int .u8 i.toNat, .string d]) (.agg #[.int .u8 (1 : UInt8).toNat, .int .u8 i.toNat, .string d])).run Try.prog W = .ok (.bool false) W := pk_neq (c := (1 : UInt8)) (c' := (1 : UInt8)) (i := i) (i' := i) (s := d) (s' := d) (pk_same _ _ _)
  have g1 : ((bOf []).toList == ([] : List UInt8)) = true := by rw [toList_bOf]; rfl
  have g2 : (bOf []).toList.isEmpty = true := no_empty
  have g3 : ¬ 4096 < (n.size : Int) + (s.size : Int) + (d.size : Int) := by omega
  have g4 : ((n.size : Int) + (s.size : Int) + (d.size : Int)) < 9223372036854775808 := by omega
  clear h1 h2
  go_enter Try.func4, Try.ntmps4
  go_wp2_with fail
  refine (KQ.out _).mono ?_
  rintro e w1 ⟨rfl, hb1⟩
  have HP := Lib.hid (HP.out.callee hb1)
  have HH1 := Lib.hid (HH0.out.trans (hb1.mono HH0.out.size))
  clear hb1
  have HP := Lib.hid (HP.out.alloc _ : At (w1.alloc (.cells #[.int .u8 1, .int .u8 id.toNat, .string D1] 23)) w.heap.size (1 : UInt8) i d)
  have HA := Lib.hid (at_new w1 (1 : UInt8) id D1 : At (w1.alloc (.cells #[.int .u8 1, .int .u8 id.toNat, .string D1] 23)) w1.heap.size (1 : UInt8) id D1)
  have HH1 := Lib.hid (HH1.out.alloc HH1.out.size _ : Below w.heap.size w (w1.alloc (.cells #[.int .u8 1, .int .u8 id.toNat, .string D1] 23)))
  have cA0 := HA.out.c0
  have cA1 := HA.out.c1
  have cA2 := HA.out.c2
  go_wp2_with fail
  refine (KA.out _).mono ?_
  rintro e w2 ⟨rfl, hb2⟩
  have HP := Lib.hid (HP.out.callee hb2)
  have HA := Lib.hid (HA.out.callee hb2)
  have HH2 := Lib.hid (HH1.out.trans (hb2.mono HH1.out.size))
  clear hb2
  have cA0 := HA.out.c0
  have cA1 := HA.out.c1
  have cA2 := HA.out.c2
  go_wp2_with fail
  refine (KK.out _).mono ?_
  rintro e w3 ⟨rfl, hb3⟩
  clear HA
  have HP := Lib.hid (HP.out.callee hb3)
  have HH3 := Lib.hid (HH2.out.trans (hb3.mono HH2.out.size))
  clear hb3
  go_wp2_with fail
  refine (KS.out _).mono ?_
  rintro e w4 ⟨rfl, hb4⟩
  have HP := Lib.hid (HP.out.callee hb4)
  have HH4 := Lib.hid (HH3.out.trans (hb4.mono HH3.out.size))
  clear hb4
  have HP := Lib.hid (HP.out.alloc _ : At (w4.alloc (.cells #[.int .u8 3, .int .u8 id.toNat, .string D2] 23)) w.heap.size (1 : UInt8) i d)
  have HB := Lib.hid (at_new w4 (3 : UInt8) id D2 : At (w4.alloc (.cells #[.int .u8 3, .int .u8 id.toNat, .string D2] 23)) w4.heap.size (3 : UInt8) id D2)
  have HH4 := Lib.hid (HH4.out.alloc HH4.out.size _ : Below w.heap.size w (w4.alloc (.cells #[.int .u8 3, .int .u8 id.toNat, .string D2] 23)))
  have cB0 := HB.out.c0
  have cB1 := HB.out.c1
  have cB2 := HB.out.c2
  go_wp2_with fail
  refine (KN.out _).mono ?_
  rintro e w5 ⟨rfl, hb5⟩
  have HP := Lib.hid (HP.out.callee hb5)
  have HB := Lib.hid (HB.out.callee hb5)
  have HH5 := Lib.hid (HH4.out.trans (hb5.mono HH4.out.size))
  clear hb5
  have cB0 := HB.out.c0
  have cB1 := HB.out.c1
  have cB2 := HB.out.c2
  have cP0 := HP.out.c0
  have cP1 := HP.out.c1
  have cP2 := HP.out.c2
  go_wp2_with fail
  refine (KA2.out _).mono ?_
  rintro e w6 ⟨rfl, hb6⟩
  have HP := Lib.hid (HP.out.callee hb6)
  have HB := Lib.hid (HB.out.callee hb6)
  have HH6 := Lib.hid (HH5.out.trans (hb6.mono HH5.out.size))
  clear hb6
  have cP0 := HP.out.c0
  have cP1 := HP.out.c1
  have cP2 := HP.out.c2
  go_wp2_with fail
  refine (KP.out _).mono ?_
  rintro e w7 ⟨rfl, hb7⟩
  have HP := Lib.hid (HP.out.callee hb7)
  have HB := Lib.hid (HB.out.callee hb7)
  have HH7 := Lib.hid (HH6.out.trans (hb7.mono HH6.out.size))
  clear hb7
  have HP := Lib.hid (HP.out.alloc _ : At (w7.alloc (.cells #[.int .u8 1, .int .u8 i.toNat, .string d] 23)) w.heap.size (1 : UInt8) i d)
  have HB := Lib.hid (HB.out.alloc _ : At (w7.alloc (.cells #[.int .u8 1, .int .u8 i.toNat, .string d] 23)) w4.heap.size (3 : UInt8) id D2)
  have HC := Lib.hid (at_new w7 (1 : UInt8) i d : At (w7.alloc (.cells #[.int .u8 1, .int .u8 i.toNat, .string d] 23)) w7.heap.size (1 : UInt8) i d)
  have HH7 := Lib.hid (HH7.out.alloc HH7.out.size _ : Below w.heap.size w (w7.alloc (.cells #[.int .u8 1, .int .u8 i.toNat, .string d] 23)))
  have cP0 := HP.out.c0
  have cP1 := HP.out.c1
  have cP2 := HP.out.c2
  have cC0 := HC.out.c0
  have cC1 := HC.out.c1
  have cC2 := HC.out.c2
  go_wp2_with fail
  refine (KN2.out _).mono ?_
  rintro e w8 ⟨rfl, hb8⟩
  have HP := Lib.hid (HP.out.callee hb8)
  have HB := Lib.hid (HB.out.callee hb8)
  have HC := Lib.hid (HC.out.callee hb8)
  have HH8 := Lib.hid (HH7.out.trans (hb8.mono HH7.out.size))
  clear hb8
  have cP0 := HP.out.c0
  have cP1 := HP.out.c1
  have cP2 := HP.out.c2
  go_wp2_with fail
  refine (alive_any _).mono ?_
  rintro e w9 ⟨rfl, hb9⟩
  have HP := Lib.hid (HP.out.callee hb9)
  have HB := Lib.hid (HB.out.callee hb9)
  have HC := Lib.hid (HC.out.callee hb9)
  have HH9 := Lib.hid (HH8.out.trans (hb9.mono HH8.out.size))
  clear hb9
  go_wp2
  go_ret
  exact ⟨rfl, HH9.out⟩

set_option maxHeartbeats 8000000 in
set_option maxRecDepth 100000 in
theorem w11_ans_true (id c i : UInt8) (n s d : ByteArray) (w : World) (hn : n.size ≤ 4096) (hs : s.size ≤ 4096) (hd : d.size ≤ 4096) (hall : (n.size : Int) + (s.size : Int) + (d.size : Int) ≤ 4096) (h1 : joinE [n, s] = 0) (h2 : joinE [s] = 0) (h4 : anE c d = 0) :
    Calls Try.prog 4 #[.int .u8 id.toNat, .string n, .string s, .bool true, .agg #[.int .u8 c.toNat, .int .u8 i.toNat, .string d]] w fun e w' => e = .returned (.bool true) ∧ Below w.heap.size w w' := by
  have HH0 := Lib.hid (Below.refl w.heap.size w)
  have HP := Lib.hid (at_new w c i d : At (w.alloc (.cells #[.int .u8 c.toNat, .int .u8 i.toNat, .string d] 23)) w.heap.size c i d)
  have HH0 := Lib.hid (HH0.out.alloc HH0.out.size _ : Below w.heap.size w (w.alloc (.cells #[.int .u8 c.toNat, .int .u8 i.toNat, .string d] 23)))
  have KQ := Lib.hid (fun w => request_any id n s w (by unfold maxLen; omega) (by unfold maxLen; omega))
  have KS := Lib.hid (fun w => answer_any id true s w (by unfold maxLen; omega))
  have z1 := join_size h1
  have KA := Lib.hid (fun w => asked_any 1 id (joinS [n, s]) w (by unfold maxLen; simp at z1; omega))
  have KK := Lib.hid (fun w => check_any 1 id (joinS [n, s]) n s w (by unfold maxLen; simp at z1; omega))
  rw [(as_back h1).1] at KA
  rw [ck_same h1, decide_eq_true ⟨rfl, rfl⟩] at KK
  rw [pkV_ok h1] at KQ
  generalize joinS [n, s] = D1 at *
  have b1 := beq_self n
  have b2 := beq_self s
  have b3 : ((id.toNat : Int) == id.toNat) = true := by simp
  simp only [if_true, Bool.false_eq_true, if_false] at KS
  have z2 := join_size h2
  have KN := Lib.hid (fun w => answered_any 2 id (joinS [s]) w (by unfold maxLen; simp at z2; omega))
  rw [an_back (.inl rfl) h2, show decide ((2 : UInt8) = 2) = true from rfl] at KN
  rw [pkV_ok h2] at KS
  generalize joinS [s] = D2 at *
  have b4 := beq_self s
  have KA2 := Lib.hid (fun w => asked_any c i d w (by unfold maxLen; omega))
  have KN2 := Lib.hid (fun w => answered_any c i d w (by unfold maxLen; omega))
  unfold asV at KA2
  unfold anV at KN2
  obtain ⟨hc, hw, hcc, hj, hjs, hm⟩ := an_zero h4
  have h3 : asE c d = 8 := by rcases hc with rfl | rfl <;> rfl
  have h3' := as_non (c := c) (d := d) (by rw [h3]; decide)
  rw [h3, h3'.1, h3'.2] at KA2
  rw [h4] at KN2
  have KP := Lib.hid (fun w => answer_any i (anW c d) (anT c d) w (by unfold maxLen; omega))
  rw [pkV_ok hj, hjs, hcc] at KP
  generalize anT c d = x at *
  generalize anW c d = vw at *
  clear hj hjs hm h3 h4 h3' hw hcc hc
  have hq0 : ∀ W, (Op.equalIn 10000 23 (.agg #[.int .u8 c.toNat, .int .u8 i.toNat, .string d]) (.agg #[.int .u8 c.toNat, .int .u8 i.toNat, .string d])).run Try.prog W = .ok true W := pk_eq (c := c) (c' := c) (i := i) (i' := i) (s := d) (s' := d) (pk_same _ _ _)
  have hq1 : ∀ W, (binOp .eql 23 (.agg #[.int .u8 c.toNat, .int .u8 i.toNat, .string d]) (.agg #[.int .u8 c.toNat, .int .u8 i.toNat, .string d])).run Try.prog W = .ok (.bool true) W := pk_eql (c := c) (c' := c) (i := i) (i' := i) (s := d) (s' := d) (pk_same _ _ _)
  have hq2 : ∀ W, (binOp .neq 23 (.agg #[.int .u8 c.toNat, .int .u8 i.toNat, .string d]) (.agg #[.int .u8 c.toNat, .int .u8 i.toNat, .string d])).run Try.prog W = .ok (.bool false) W := pk_neq (c := c) (c' := c) (i := i) (i' := i) (s := d) (s' := d) (pk_same _ _ _)
  have g1 : ((bOf []).toList == ([] : List UInt8)) = true := by rw [toList_bOf]; rfl
  have g2 : (bOf []).toList.isEmpty = true := no_empty
  have g3 : ¬ 4096 < (n.size : Int) + (s.size : Int) + (d.size : Int) := by omega
  have g4 : ((n.size : Int) + (s.size : Int) + (d.size : Int)) < 9223372036854775808 := by omega
  clear h1 h2
  go_enter Try.func4, Try.ntmps4
  go_wp2_with fail
  refine (KQ.out _).mono ?_
  rintro e w1 ⟨rfl, hb1⟩
  have HP := Lib.hid (HP.out.callee hb1)
  have HH1 := Lib.hid (HH0.out.trans (hb1.mono HH0.out.size))
  clear hb1
  have HP := Lib.hid (HP.out.alloc _ : At (w1.alloc (.cells #[.int .u8 1, .int .u8 id.toNat, .string D1] 23)) w.heap.size c i d)
  have HA := Lib.hid (at_new w1 (1 : UInt8) id D1 : At (w1.alloc (.cells #[.int .u8 1, .int .u8 id.toNat, .string D1] 23)) w1.heap.size (1 : UInt8) id D1)
  have HH1 := Lib.hid (HH1.out.alloc HH1.out.size _ : Below w.heap.size w (w1.alloc (.cells #[.int .u8 1, .int .u8 id.toNat, .string D1] 23)))
  have cA0 := HA.out.c0
  have cA1 := HA.out.c1
  have cA2 := HA.out.c2
  go_wp2_with fail
  refine (KA.out _).mono ?_
  rintro e w2 ⟨rfl, hb2⟩
  have HP := Lib.hid (HP.out.callee hb2)
  have HA := Lib.hid (HA.out.callee hb2)
  have HH2 := Lib.hid (HH1.out.trans (hb2.mono HH1.out.size))
  clear hb2
  have cA0 := HA.out.c0
  have cA1 := HA.out.c1
  have cA2 := HA.out.c2
  go_wp2_with fail
  refine (KK.out _).mono ?_
  rintro e w3 ⟨rfl, hb3⟩
  clear HA
  have HP := Lib.hid (HP.out.callee hb3)
  have HH3 := Lib.hid (HH2.out.trans (hb3.mono HH2.out.size))
  clear hb3
  go_wp2_with fail
  refine (KS.out _).mono ?_
  rintro e w4 ⟨rfl, hb4⟩
  have HP := Lib.hid (HP.out.callee hb4)
  have HH4 := Lib.hid (HH3.out.trans (hb4.mono HH3.out.size))
  clear hb4
  have HP := Lib.hid (HP.out.alloc _ : At (w4.alloc (.cells #[.int .u8 2, .int .u8 id.toNat, .string D2] 23)) w.heap.size c i d)
  have HB := Lib.hid (at_new w4 (2 : UInt8) id D2 : At (w4.alloc (.cells #[.int .u8 2, .int .u8 id.toNat, .string D2] 23)) w4.heap.size (2 : UInt8) id D2)
  have HH4 := Lib.hid (HH4.out.alloc HH4.out.size _ : Below w.heap.size w (w4.alloc (.cells #[.int .u8 2, .int .u8 id.toNat, .string D2] 23)))
  have cB0 := HB.out.c0
  have cB1 := HB.out.c1
  have cB2 := HB.out.c2
  go_wp2_with fail
  refine (KN.out _).mono ?_
  rintro e w5 ⟨rfl, hb5⟩
  have HP := Lib.hid (HP.out.callee hb5)
  have HB := Lib.hid (HB.out.callee hb5)
  have HH5 := Lib.hid (HH4.out.trans (hb5.mono HH4.out.size))
  clear hb5
  have cB0 := HB.out.c0
  have cB1 := HB.out.c1
  have cB2 := HB.out.c2
  have cP0 := HP.out.c0
  have cP1 := HP.out.c1
  have cP2 := HP.out.c2
  go_wp2_with fail
  refine (KA2.out _).mono ?_
  rintro e w6 ⟨rfl, hb6⟩
  have HP := Lib.hid (HP.out.callee hb6)
  have HB := Lib.hid (HB.out.callee hb6)
  have HH6 := Lib.hid (HH5.out.trans (hb6.mono HH5.out.size))
  clear hb6
  have cP0 := HP.out.c0
  have cP1 := HP.out.c1
  have cP2 := HP.out.c2
  go_wp2_with fail
  refine (KN2.out _).mono ?_
  rintro e w7 ⟨rfl, hb7⟩
  have HP := Lib.hid (HP.out.callee hb7)
  have HB := Lib.hid (HB.out.callee hb7)
  have HH7 := Lib.hid (HH6.out.trans (hb7.mono HH6.out.size))
  clear hb7
  have cP0 := HP.out.c0
  have cP1 := HP.out.c1
  have cP2 := HP.out.c2
  go_wp2_with fail
  refine (KP.out _).mono ?_
  rintro e w8 ⟨rfl, hb8⟩
  have HP := Lib.hid (HP.out.callee hb8)
  have HB := Lib.hid (HB.out.callee hb8)
  have HH8 := Lib.hid (HH7.out.trans (hb8.mono HH7.out.size))
  clear hb8
  have HP := Lib.hid (HP.out.alloc _ : At (w8.alloc (.cells #[.int .u8 c.toNat, .int .u8 i.toNat, .string d] 23)) w.heap.size c i d)
  have HB := Lib.hid (HB.out.alloc _ : At (w8.alloc (.cells #[.int .u8 c.toNat, .int .u8 i.toNat, .string d] 23)) w4.heap.size (2 : UInt8) id D2)
  have HC := Lib.hid (at_new w8 c i d : At (w8.alloc (.cells #[.int .u8 c.toNat, .int .u8 i.toNat, .string d] 23)) w8.heap.size c i d)
  have HH8 := Lib.hid (HH8.out.alloc HH8.out.size _ : Below w.heap.size w (w8.alloc (.cells #[.int .u8 c.toNat, .int .u8 i.toNat, .string d] 23)))
  have cP0 := HP.out.c0
  have cP1 := HP.out.c1
  have cP2 := HP.out.c2
  have cC0 := HC.out.c0
  have cC1 := HC.out.c1
  have cC2 := HC.out.c2
  go_wp2_with fail
  refine (alive_any _).mono ?_
  rintro e w9 ⟨rfl, hb9⟩
  have HP := Lib.hid (HP.out.callee hb9)
  have HB := Lib.hid (HB.out.callee hb9)
  have HC := Lib.hid (HC.out.callee hb9)
  have HH9 := Lib.hid (HH8.out.trans (hb9.mono HH8.out.size))
  clear hb9
  go_wp2
  go_ret
  exact ⟨rfl, HH9.out⟩

set_option maxHeartbeats 8000000 in
set_option maxRecDepth 100000 in
theorem w11_ans_false (id c i : UInt8) (n s d : ByteArray) (w : World) (hn : n.size ≤ 4096) (hs : s.size ≤ 4096) (hd : d.size ≤ 4096) (hall : (n.size : Int) + (s.size : Int) + (d.size : Int) ≤ 4096) (h1 : joinE [n, s] = 0) (h2 : joinE [s] = 0) (h4 : anE c d = 0) :
    Calls Try.prog 4 #[.int .u8 id.toNat, .string n, .string s, .bool false, .agg #[.int .u8 c.toNat, .int .u8 i.toNat, .string d]] w fun e w' => e = .returned (.bool true) ∧ Below w.heap.size w w' := by
  have HH0 := Lib.hid (Below.refl w.heap.size w)
  have HP := Lib.hid (at_new w c i d : At (w.alloc (.cells #[.int .u8 c.toNat, .int .u8 i.toNat, .string d] 23)) w.heap.size c i d)
  have HH0 := Lib.hid (HH0.out.alloc HH0.out.size _ : Below w.heap.size w (w.alloc (.cells #[.int .u8 c.toNat, .int .u8 i.toNat, .string d] 23)))
  have KQ := Lib.hid (fun w => request_any id n s w (by unfold maxLen; omega) (by unfold maxLen; omega))
  have KS := Lib.hid (fun w => answer_any id false s w (by unfold maxLen; omega))
  have z1 := join_size h1
  have KA := Lib.hid (fun w => asked_any 1 id (joinS [n, s]) w (by unfold maxLen; simp at z1; omega))
  have KK := Lib.hid (fun w => check_any 1 id (joinS [n, s]) n s w (by unfold maxLen; simp at z1; omega))
  rw [(as_back h1).1] at KA
  rw [ck_same h1, decide_eq_true ⟨rfl, rfl⟩] at KK
  rw [pkV_ok h1] at KQ
  generalize joinS [n, s] = D1 at *
  have b1 := beq_self n
  have b2 := beq_self s
  have b3 : ((id.toNat : Int) == id.toNat) = true := by simp
  simp only [if_true, Bool.false_eq_true, if_false] at KS
  have z2 := join_size h2
  have KN := Lib.hid (fun w => answered_any 3 id (joinS [s]) w (by unfold maxLen; simp at z2; omega))
  rw [an_back (.inr rfl) h2, show decide ((3 : UInt8) = 2) = false from rfl] at KN
  rw [pkV_ok h2] at KS
  generalize joinS [s] = D2 at *
  have b4 := beq_self s
  have KA2 := Lib.hid (fun w => asked_any c i d w (by unfold maxLen; omega))
  have KN2 := Lib.hid (fun w => answered_any c i d w (by unfold maxLen; omega))
  unfold asV at KA2
  unfold anV at KN2
  obtain ⟨hc, hw, hcc, hj, hjs, hm⟩ := an_zero h4
  have h3 : asE c d = 8 := by rcases hc with rfl | rfl <;> rfl
  have h3' := as_non (c := c) (d := d) (by rw [h3]; decide)
  rw [h3, h3'.1, h3'.2] at KA2
  rw [h4] at KN2
  have KP := Lib.hid (fun w => answer_any i (anW c d) (anT c d) w (by unfold maxLen; omega))
  rw [pkV_ok hj, hjs, hcc] at KP
  generalize anT c d = x at *
  generalize anW c d = vw at *
  clear hj hjs hm h3 h4 h3' hw hcc hc
  have hq0 : ∀ W, (Op.equalIn 10000 23 (.agg #[.int .u8 c.toNat, .int .u8 i.toNat, .string d]) (.agg #[.int .u8 c.toNat, .int .u8 i.toNat, .string d])).run Try.prog W = .ok true W := pk_eq (c := c) (c' := c) (i := i) (i' := i) (s := d) (s' := d) (pk_same _ _ _)
  have hq1 : ∀ W, (binOp .eql 23 (.agg #[.int .u8 c.toNat, .int .u8 i.toNat, .string d]) (.agg #[.int .u8 c.toNat, .int .u8 i.toNat, .string d])).run Try.prog W = .ok (.bool true) W := pk_eql (c := c) (c' := c) (i := i) (i' := i) (s := d) (s' := d) (pk_same _ _ _)
  have hq2 : ∀ W, (binOp .neq 23 (.agg #[.int .u8 c.toNat, .int .u8 i.toNat, .string d]) (.agg #[.int .u8 c.toNat, .int .u8 i.toNat, .string d])).run Try.prog W = .ok (.bool false) W := pk_neq (c := c) (c' := c) (i := i) (i' := i) (s := d) (s' := d) (pk_same _ _ _)
  have g1 : ((bOf []).toList == ([] : List UInt8)) = true := by rw [toList_bOf]; rfl
  have g2 : (bOf []).toList.isEmpty = true := no_empty
  have g3 : ¬ 4096 < (n.size : Int) + (s.size : Int) + (d.size : Int) := by omega
  have g4 : ((n.size : Int) + (s.size : Int) + (d.size : Int)) < 9223372036854775808 := by omega
  clear h1 h2
  go_enter Try.func4, Try.ntmps4
  go_wp2_with fail
  refine (KQ.out _).mono ?_
  rintro e w1 ⟨rfl, hb1⟩
  have HP := Lib.hid (HP.out.callee hb1)
  have HH1 := Lib.hid (HH0.out.trans (hb1.mono HH0.out.size))
  clear hb1
  have HP := Lib.hid (HP.out.alloc _ : At (w1.alloc (.cells #[.int .u8 1, .int .u8 id.toNat, .string D1] 23)) w.heap.size c i d)
  have HA := Lib.hid (at_new w1 (1 : UInt8) id D1 : At (w1.alloc (.cells #[.int .u8 1, .int .u8 id.toNat, .string D1] 23)) w1.heap.size (1 : UInt8) id D1)
  have HH1 := Lib.hid (HH1.out.alloc HH1.out.size _ : Below w.heap.size w (w1.alloc (.cells #[.int .u8 1, .int .u8 id.toNat, .string D1] 23)))
  have cA0 := HA.out.c0
  have cA1 := HA.out.c1
  have cA2 := HA.out.c2
  go_wp2_with fail
  refine (KA.out _).mono ?_
  rintro e w2 ⟨rfl, hb2⟩
  have HP := Lib.hid (HP.out.callee hb2)
  have HA := Lib.hid (HA.out.callee hb2)
  have HH2 := Lib.hid (HH1.out.trans (hb2.mono HH1.out.size))
  clear hb2
  have cA0 := HA.out.c0
  have cA1 := HA.out.c1
  have cA2 := HA.out.c2
  go_wp2_with fail
  refine (KK.out _).mono ?_
  rintro e w3 ⟨rfl, hb3⟩
  clear HA
  have HP := Lib.hid (HP.out.callee hb3)
  have HH3 := Lib.hid (HH2.out.trans (hb3.mono HH2.out.size))
  clear hb3
  go_wp2_with fail
  refine (KS.out _).mono ?_
  rintro e w4 ⟨rfl, hb4⟩
  have HP := Lib.hid (HP.out.callee hb4)
  have HH4 := Lib.hid (HH3.out.trans (hb4.mono HH3.out.size))
  clear hb4
  have HP := Lib.hid (HP.out.alloc _ : At (w4.alloc (.cells #[.int .u8 3, .int .u8 id.toNat, .string D2] 23)) w.heap.size c i d)
  have HB := Lib.hid (at_new w4 (3 : UInt8) id D2 : At (w4.alloc (.cells #[.int .u8 3, .int .u8 id.toNat, .string D2] 23)) w4.heap.size (3 : UInt8) id D2)
  have HH4 := Lib.hid (HH4.out.alloc HH4.out.size _ : Below w.heap.size w (w4.alloc (.cells #[.int .u8 3, .int .u8 id.toNat, .string D2] 23)))
  have cB0 := HB.out.c0
  have cB1 := HB.out.c1
  have cB2 := HB.out.c2
  go_wp2_with fail
  refine (KN.out _).mono ?_
  rintro e w5 ⟨rfl, hb5⟩
  have HP := Lib.hid (HP.out.callee hb5)
  have HB := Lib.hid (HB.out.callee hb5)
  have HH5 := Lib.hid (HH4.out.trans (hb5.mono HH4.out.size))
  clear hb5
  have cB0 := HB.out.c0
  have cB1 := HB.out.c1
  have cB2 := HB.out.c2
  have cP0 := HP.out.c0
  have cP1 := HP.out.c1
  have cP2 := HP.out.c2
  go_wp2_with fail
  refine (KA2.out _).mono ?_
  rintro e w6 ⟨rfl, hb6⟩
  have HP := Lib.hid (HP.out.callee hb6)
  have HB := Lib.hid (HB.out.callee hb6)
  have HH6 := Lib.hid (HH5.out.trans (hb6.mono HH5.out.size))
  clear hb6
  have cP0 := HP.out.c0
  have cP1 := HP.out.c1
  have cP2 := HP.out.c2
  go_wp2_with fail
  refine (KN2.out _).mono ?_
  rintro e w7 ⟨rfl, hb7⟩
  have HP := Lib.hid (HP.out.callee hb7)
  have HB := Lib.hid (HB.out.callee hb7)
  have HH7 := Lib.hid (HH6.out.trans (hb7.mono HH6.out.size))
  clear hb7
  have cP0 := HP.out.c0
  have cP1 := HP.out.c1
  have cP2 := HP.out.c2
  go_wp2_with fail
  refine (KP.out _).mono ?_
  rintro e w8 ⟨rfl, hb8⟩
  have HP := Lib.hid (HP.out.callee hb8)
  have HB := Lib.hid (HB.out.callee hb8)
  have HH8 := Lib.hid (HH7.out.trans (hb8.mono HH7.out.size))
  clear hb8
  have HP := Lib.hid (HP.out.alloc _ : At (w8.alloc (.cells #[.int .u8 c.toNat, .int .u8 i.toNat, .string d] 23)) w.heap.size c i d)
  have HB := Lib.hid (HB.out.alloc _ : At (w8.alloc (.cells #[.int .u8 c.toNat, .int .u8 i.toNat, .string d] 23)) w4.heap.size (3 : UInt8) id D2)
  have HC := Lib.hid (at_new w8 c i d : At (w8.alloc (.cells #[.int .u8 c.toNat, .int .u8 i.toNat, .string d] 23)) w8.heap.size c i d)
  have HH8 := Lib.hid (HH8.out.alloc HH8.out.size _ : Below w.heap.size w (w8.alloc (.cells #[.int .u8 c.toNat, .int .u8 i.toNat, .string d] 23)))
  have cP0 := HP.out.c0
  have cP1 := HP.out.c1
  have cP2 := HP.out.c2
  have cC0 := HC.out.c0
  have cC1 := HC.out.c1
  have cC2 := HC.out.c2
  go_wp2_with fail
  refine (alive_any _).mono ?_
  rintro e w9 ⟨rfl, hb9⟩
  have HP := Lib.hid (HP.out.callee hb9)
  have HB := Lib.hid (HB.out.callee hb9)
  have HC := Lib.hid (HC.out.callee hb9)
  have HH9 := Lib.hid (HH8.out.trans (hb9.mono HH8.out.size))
  clear hb9
  go_wp2
  go_ret
  exact ⟨rfl, HH9.out⟩

set_option maxHeartbeats 8000000 in
set_option maxRecDepth 100000 in
theorem w11_none_true (id c i : UInt8) (n s d : ByteArray) (w : World) (hn : n.size ≤ 4096) (hs : s.size ≤ 4096) (hd : d.size ≤ 4096) (hall : (n.size : Int) + (s.size : Int) + (d.size : Int) ≤ 4096) (h1 : joinE [n, s] = 0) (h2 : joinE [s] = 0) (h3 : asE c d ≠ 0) (h4 : anE c d ≠ 0) :
    Calls Try.prog 4 #[.int .u8 id.toNat, .string n, .string s, .bool true, .agg #[.int .u8 c.toNat, .int .u8 i.toNat, .string d]] w fun e w' => e = .returned (.bool true) ∧ Below w.heap.size w w' := by
  have HH0 := Lib.hid (Below.refl w.heap.size w)
  have HP := Lib.hid (at_new w c i d : At (w.alloc (.cells #[.int .u8 c.toNat, .int .u8 i.toNat, .string d] 23)) w.heap.size c i d)
  have HH0 := Lib.hid (HH0.out.alloc HH0.out.size _ : Below w.heap.size w (w.alloc (.cells #[.int .u8 c.toNat, .int .u8 i.toNat, .string d] 23)))
  have KQ := Lib.hid (fun w => request_any id n s w (by unfold maxLen; omega) (by unfold maxLen; omega))
  have KS := Lib.hid (fun w => answer_any id true s w (by unfold maxLen; omega))
  have z1 := join_size h1
  have KA := Lib.hid (fun w => asked_any 1 id (joinS [n, s]) w (by unfold maxLen; simp at z1; omega))
  have KK := Lib.hid (fun w => check_any 1 id (joinS [n, s]) n s w (by unfold maxLen; simp at z1; omega))
  rw [(as_back h1).1] at KA
  rw [ck_same h1, decide_eq_true ⟨rfl, rfl⟩] at KK
  rw [pkV_ok h1] at KQ
  generalize joinS [n, s] = D1 at *
  have b1 := beq_self n
  have b2 := beq_self s
  have b3 : ((id.toNat : Int) == id.toNat) = true := by simp
  simp only [if_true, Bool.false_eq_true, if_false] at KS
  have z2 := join_size h2
  have KN := Lib.hid (fun w => answered_any 2 id (joinS [s]) w (by unfold maxLen; simp at z2; omega))
  rw [an_back (.inl rfl) h2, show decide ((2 : UInt8) = 2) = true from rfl] at KN
  rw [pkV_ok h2] at KS
  generalize joinS [s] = D2 at *
  have b4 := beq_self s
  have KA2 := Lib.hid (fun w => asked_any c i d w (by unfold maxLen; omega))
  have KN2 := Lib.hid (fun w => answered_any c i d w (by unfold maxLen; omega))
  unfold asV at KA2
  unfold anV at KN2
  have h3' := as_non h3
  have h4' := an_non h4
  rw [h3'.1, h3'.2] at KA2
  rw [h4'.1, h4'.2] at KN2
  have k3 : (asE c d == 0) = false := by rw [beq_eq_false_iff_ne]; exact h3
  have k4 : (anE c d == 0) = false := by rw [beq_eq_false_iff_ne]; exact h4
  generalize asE c d = E3 at *
  generalize anE c d = E4 at *
  clear h3 h4 h3' h4'
  have g1 : ((bOf []).toList == ([] : List UInt8)) = true := by rw [toList_bOf]; rfl
  have g2 : (bOf []).toList.isEmpty = true := no_empty
  have g3 : ¬ 4096 < (n.size : Int) + (s.size : Int) + (d.size : Int) := by omega
  have g4 : ((n.size : Int) + (s.size : Int) + (d.size : Int)) < 9223372036854775808 := by omega
  clear h1 h2
  go_enter Try.func4, Try.ntmps4
  go_wp2_with fail
  refine (KQ.out _).mono ?_
  rintro e w1 ⟨rfl, hb1⟩
  have HP := Lib.hid (HP.out.callee hb1)
  have HH1 := Lib.hid (HH0.out.trans (hb1.mono HH0.out.size))
  clear hb1
  have HP := Lib.hid (HP.out.alloc _ : At (w1.alloc (.cells #[.int .u8 1, .int .u8 id.toNat, .string D1] 23)) w.heap.size c i d)
  have HA := Lib.hid (at_new w1 (1 : UInt8) id D1 : At (w1.alloc (.cells #[.int .u8 1, .int .u8 id.toNat, .string D1] 23)) w1.heap.size (1 : UInt8) id D1)
  have HH1 := Lib.hid (HH1.out.alloc HH1.out.size _ : Below w.heap.size w (w1.alloc (.cells #[.int .u8 1, .int .u8 id.toNat, .string D1] 23)))
  have cA0 := HA.out.c0
  have cA1 := HA.out.c1
  have cA2 := HA.out.c2
  go_wp2_with fail
  refine (KA.out _).mono ?_
  rintro e w2 ⟨rfl, hb2⟩
  have HP := Lib.hid (HP.out.callee hb2)
  have HA := Lib.hid (HA.out.callee hb2)
  have HH2 := Lib.hid (HH1.out.trans (hb2.mono HH1.out.size))
  clear hb2
  have cA0 := HA.out.c0
  have cA1 := HA.out.c1
  have cA2 := HA.out.c2
  go_wp2_with fail
  refine (KK.out _).mono ?_
  rintro e w3 ⟨rfl, hb3⟩
  clear HA
  have HP := Lib.hid (HP.out.callee hb3)
  have HH3 := Lib.hid (HH2.out.trans (hb3.mono HH2.out.size))
  clear hb3
  go_wp2_with fail
  refine (KS.out _).mono ?_
  rintro e w4 ⟨rfl, hb4⟩
  have HP := Lib.hid (HP.out.callee hb4)
  have HH4 := Lib.hid (HH3.out.trans (hb4.mono HH3.out.size))
  clear hb4
  have HP := Lib.hid (HP.out.alloc _ : At (w4.alloc (.cells #[.int .u8 2, .int .u8 id.toNat, .string D2] 23)) w.heap.size c i d)
  have HB := Lib.hid (at_new w4 (2 : UInt8) id D2 : At (w4.alloc (.cells #[.int .u8 2, .int .u8 id.toNat, .string D2] 23)) w4.heap.size (2 : UInt8) id D2)
  have HH4 := Lib.hid (HH4.out.alloc HH4.out.size _ : Below w.heap.size w (w4.alloc (.cells #[.int .u8 2, .int .u8 id.toNat, .string D2] 23)))
  have cB0 := HB.out.c0
  have cB1 := HB.out.c1
  have cB2 := HB.out.c2
  go_wp2_with fail
  refine (KN.out _).mono ?_
  rintro e w5 ⟨rfl, hb5⟩
  have HP := Lib.hid (HP.out.callee hb5)
  have HB := Lib.hid (HB.out.callee hb5)
  have HH5 := Lib.hid (HH4.out.trans (hb5.mono HH4.out.size))
  clear hb5
  have cB0 := HB.out.c0
  have cB1 := HB.out.c1
  have cB2 := HB.out.c2
  have cP0 := HP.out.c0
  have cP1 := HP.out.c1
  have cP2 := HP.out.c2
  go_wp2_with fail
  refine (KA2.out _).mono ?_
  rintro e w6 ⟨rfl, hb6⟩
  have HP := Lib.hid (HP.out.callee hb6)
  have HB := Lib.hid (HB.out.callee hb6)
  have HH6 := Lib.hid (HH5.out.trans (hb6.mono HH5.out.size))
  clear hb6
  have cP0 := HP.out.c0
  have cP1 := HP.out.c1
  have cP2 := HP.out.c2
  go_wp2_with fail
  refine (KN2.out _).mono ?_
  rintro e w7 ⟨rfl, hb7⟩
  have HP := Lib.hid (HP.out.callee hb7)
  have HB := Lib.hid (HB.out.callee hb7)
  have HH7 := Lib.hid (HH6.out.trans (hb7.mono HH6.out.size))
  clear hb7
  have cP0 := HP.out.c0
  have cP1 := HP.out.c1
  have cP2 := HP.out.c2
  go_wp2_with fail
  refine (alive_any _).mono ?_
  rintro e w8 ⟨rfl, hb8⟩
  have HP := Lib.hid (HP.out.callee hb8)
  have HB := Lib.hid (HB.out.callee hb8)
  have HH8 := Lib.hid (HH7.out.trans (hb8.mono HH7.out.size))
  clear hb8
  go_wp2
  go_ret
  exact ⟨rfl, HH8.out⟩

set_option maxHeartbeats 8000000 in
set_option maxRecDepth 100000 in
theorem w11_none_false (id c i : UInt8) (n s d : ByteArray) (w : World) (hn : n.size ≤ 4096) (hs : s.size ≤ 4096) (hd : d.size ≤ 4096) (hall : (n.size : Int) + (s.size : Int) + (d.size : Int) ≤ 4096) (h1 : joinE [n, s] = 0) (h2 : joinE [s] = 0) (h3 : asE c d ≠ 0) (h4 : anE c d ≠ 0) :
    Calls Try.prog 4 #[.int .u8 id.toNat, .string n, .string s, .bool false, .agg #[.int .u8 c.toNat, .int .u8 i.toNat, .string d]] w fun e w' => e = .returned (.bool true) ∧ Below w.heap.size w w' := by
  have HH0 := Lib.hid (Below.refl w.heap.size w)
  have HP := Lib.hid (at_new w c i d : At (w.alloc (.cells #[.int .u8 c.toNat, .int .u8 i.toNat, .string d] 23)) w.heap.size c i d)
  have HH0 := Lib.hid (HH0.out.alloc HH0.out.size _ : Below w.heap.size w (w.alloc (.cells #[.int .u8 c.toNat, .int .u8 i.toNat, .string d] 23)))
  have KQ := Lib.hid (fun w => request_any id n s w (by unfold maxLen; omega) (by unfold maxLen; omega))
  have KS := Lib.hid (fun w => answer_any id false s w (by unfold maxLen; omega))
  have z1 := join_size h1
  have KA := Lib.hid (fun w => asked_any 1 id (joinS [n, s]) w (by unfold maxLen; simp at z1; omega))
  have KK := Lib.hid (fun w => check_any 1 id (joinS [n, s]) n s w (by unfold maxLen; simp at z1; omega))
  rw [(as_back h1).1] at KA
  rw [ck_same h1, decide_eq_true ⟨rfl, rfl⟩] at KK
  rw [pkV_ok h1] at KQ
  generalize joinS [n, s] = D1 at *
  have b1 := beq_self n
  have b2 := beq_self s
  have b3 : ((id.toNat : Int) == id.toNat) = true := by simp
  simp only [if_true, Bool.false_eq_true, if_false] at KS
  have z2 := join_size h2
  have KN := Lib.hid (fun w => answered_any 3 id (joinS [s]) w (by unfold maxLen; simp at z2; omega))
  rw [an_back (.inr rfl) h2, show decide ((3 : UInt8) = 2) = false from rfl] at KN
  rw [pkV_ok h2] at KS
  generalize joinS [s] = D2 at *
  have b4 := beq_self s
  have KA2 := Lib.hid (fun w => asked_any c i d w (by unfold maxLen; omega))
  have KN2 := Lib.hid (fun w => answered_any c i d w (by unfold maxLen; omega))
  unfold asV at KA2
  unfold anV at KN2
  have h3' := as_non h3
  have h4' := an_non h4
  rw [h3'.1, h3'.2] at KA2
  rw [h4'.1, h4'.2] at KN2
  have k3 : (asE c d == 0) = false := by rw [beq_eq_false_iff_ne]; exact h3
  have k4 : (anE c d == 0) = false := by rw [beq_eq_false_iff_ne]; exact h4
  generalize asE c d = E3 at *
  generalize anE c d = E4 at *
  clear h3 h4 h3' h4'
  have g1 : ((bOf []).toList == ([] : List UInt8)) = true := by rw [toList_bOf]; rfl
  have g2 : (bOf []).toList.isEmpty = true := no_empty
  have g3 : ¬ 4096 < (n.size : Int) + (s.size : Int) + (d.size : Int) := by omega
  have g4 : ((n.size : Int) + (s.size : Int) + (d.size : Int)) < 9223372036854775808 := by omega
  clear h1 h2
  go_enter Try.func4, Try.ntmps4
  go_wp2_with fail
  refine (KQ.out _).mono ?_
  rintro e w1 ⟨rfl, hb1⟩
  have HP := Lib.hid (HP.out.callee hb1)
  have HH1 := Lib.hid (HH0.out.trans (hb1.mono HH0.out.size))
  clear hb1
  have HP := Lib.hid (HP.out.alloc _ : At (w1.alloc (.cells #[.int .u8 1, .int .u8 id.toNat, .string D1] 23)) w.heap.size c i d)
  have HA := Lib.hid (at_new w1 (1 : UInt8) id D1 : At (w1.alloc (.cells #[.int .u8 1, .int .u8 id.toNat, .string D1] 23)) w1.heap.size (1 : UInt8) id D1)
  have HH1 := Lib.hid (HH1.out.alloc HH1.out.size _ : Below w.heap.size w (w1.alloc (.cells #[.int .u8 1, .int .u8 id.toNat, .string D1] 23)))
  have cA0 := HA.out.c0
  have cA1 := HA.out.c1
  have cA2 := HA.out.c2
  go_wp2_with fail
  refine (KA.out _).mono ?_
  rintro e w2 ⟨rfl, hb2⟩
  have HP := Lib.hid (HP.out.callee hb2)
  have HA := Lib.hid (HA.out.callee hb2)
  have HH2 := Lib.hid (HH1.out.trans (hb2.mono HH1.out.size))
  clear hb2
  have cA0 := HA.out.c0
  have cA1 := HA.out.c1
  have cA2 := HA.out.c2
  go_wp2_with fail
  refine (KK.out _).mono ?_
  rintro e w3 ⟨rfl, hb3⟩
  clear HA
  have HP := Lib.hid (HP.out.callee hb3)
  have HH3 := Lib.hid (HH2.out.trans (hb3.mono HH2.out.size))
  clear hb3
  go_wp2_with fail
  refine (KS.out _).mono ?_
  rintro e w4 ⟨rfl, hb4⟩
  have HP := Lib.hid (HP.out.callee hb4)
  have HH4 := Lib.hid (HH3.out.trans (hb4.mono HH3.out.size))
  clear hb4
  have HP := Lib.hid (HP.out.alloc _ : At (w4.alloc (.cells #[.int .u8 3, .int .u8 id.toNat, .string D2] 23)) w.heap.size c i d)
  have HB := Lib.hid (at_new w4 (3 : UInt8) id D2 : At (w4.alloc (.cells #[.int .u8 3, .int .u8 id.toNat, .string D2] 23)) w4.heap.size (3 : UInt8) id D2)
  have HH4 := Lib.hid (HH4.out.alloc HH4.out.size _ : Below w.heap.size w (w4.alloc (.cells #[.int .u8 3, .int .u8 id.toNat, .string D2] 23)))
  have cB0 := HB.out.c0
  have cB1 := HB.out.c1
  have cB2 := HB.out.c2
  go_wp2_with fail
  refine (KN.out _).mono ?_
  rintro e w5 ⟨rfl, hb5⟩
  have HP := Lib.hid (HP.out.callee hb5)
  have HB := Lib.hid (HB.out.callee hb5)
  have HH5 := Lib.hid (HH4.out.trans (hb5.mono HH4.out.size))
  clear hb5
  have cB0 := HB.out.c0
  have cB1 := HB.out.c1
  have cB2 := HB.out.c2
  have cP0 := HP.out.c0
  have cP1 := HP.out.c1
  have cP2 := HP.out.c2
  go_wp2_with fail
  refine (KA2.out _).mono ?_
  rintro e w6 ⟨rfl, hb6⟩
  have HP := Lib.hid (HP.out.callee hb6)
  have HB := Lib.hid (HB.out.callee hb6)
  have HH6 := Lib.hid (HH5.out.trans (hb6.mono HH5.out.size))
  clear hb6
  have cP0 := HP.out.c0
  have cP1 := HP.out.c1
  have cP2 := HP.out.c2
  go_wp2_with fail
  refine (KN2.out _).mono ?_
  rintro e w7 ⟨rfl, hb7⟩
  have HP := Lib.hid (HP.out.callee hb7)
  have HB := Lib.hid (HB.out.callee hb7)
  have HH7 := Lib.hid (HH6.out.trans (hb7.mono HH6.out.size))
  clear hb7
  have cP0 := HP.out.c0
  have cP1 := HP.out.c1
  have cP2 := HP.out.c2
  go_wp2_with fail
  refine (alive_any _).mono ?_
  rintro e w8 ⟨rfl, hb8⟩
  have HP := Lib.hid (HP.out.callee hb8)
  have HB := Lib.hid (HB.out.callee hb8)
  have HH8 := Lib.hid (HH7.out.trans (hb8.mono HH7.out.size))
  clear hb8
  go_wp2
  go_ret
  exact ⟨rfl, HH8.out⟩

set_option maxHeartbeats 8000000 in
set_option maxRecDepth 100000 in
theorem w01_ask_true (id c i : UInt8) (n s d : ByteArray) (w : World) (hn : n.size ≤ 4096) (hs : s.size ≤ 4096) (hd : d.size ≤ 4096) (hall : (n.size : Int) + (s.size : Int) + (d.size : Int) ≤ 4096) (h1 : joinE [n, s] ≠ 0) (h2 : joinE [s] = 0) (h3 : asE c d = 0) :
    Calls Try.prog 4 #[.int .u8 id.toNat, .string n, .string s, .bool true, .agg #[.int .u8 c.toNat, .int .u8 i.toNat, .string d]] w fun e w' => e = .returned (.bool true) ∧ Below w.heap.size w w' := by
  have HH0 := Lib.hid (Below.refl w.heap.size w)
  have HP := Lib.hid (at_new w c i d : At (w.alloc (.cells #[.int .u8 c.toNat, .int .u8 i.toNat, .string d] 23)) w.heap.size c i d)
  have HH0 := Lib.hid (HH0.out.alloc HH0.out.size _ : Below w.heap.size w (w.alloc (.cells #[.int .u8 c.toNat, .int .u8 i.toNat, .string d] 23)))
  have KQ := Lib.hid (fun w => request_any id n s w (by unfold maxLen; omega) (by unfold maxLen; omega))
  have KS := Lib.hid (fun w => answer_any id true s w (by unfold maxLen; omega))
  rw [pkV_no h1] at KQ
  simp only [if_true, Bool.false_eq_true, if_false] at KS
  have z2 := join_size h2
  have KN := Lib.hid (fun w => answered_any 2 id (joinS [s]) w (by unfold maxLen; simp at z2; omega))
  rw [an_back (.inl rfl) h2, show decide ((2 : UInt8) = 2) = true from rfl] at KN
  rw [pkV_ok h2] at KS
  generalize joinS [s] = D2 at *
  have b4 := beq_self s
  have b3 : ((id.toNat : Int) == id.toNat) = true := by simp
  have KA2 := Lib.hid (fun w => asked_any c i d w (by unfold maxLen; omega))
  have KN2 := Lib.hid (fun w => answered_any c i d w (by unfold maxLen; omega))
  unfold asV at KA2
  unfold anV at KN2
  obtain ⟨hc, hj, hjs, hx, hy⟩ := as_zero h3
  have h4 : anE c d = 8 := by rw [hc]; rfl
  have h4' := an_non (c := c) (d := d) (by rw [h4]; decide)
  rw [h4, h4'.1, h4'.2] at KN2
  rw [h3] at KA2
  have KP := Lib.hid (fun w => request_any i (asT c d 0) (asT c d 1) w (by unfold maxLen; omega) (by unfold maxLen; omega))
  rw [pkV_ok hj, hjs] at KP
  generalize asT c d 0 = x at *
  generalize asT c d 1 = y at *
  clear hj hjs hx hy h3 h4 h4'
  subst hc
  have hq0 : ∀ W, (Op.equalIn 10000 23 (.agg #[.int .u8 (1 : UInt8).toNat, .int .u8 i.toNat, .string d]) (.agg #[.int .u8 (1 : UInt8).toNat, .int .u8 i.toNat, .string d])).run Try.prog W = .ok true W := pk_eq (c := (1 : UInt8)) (c' := (1 : UInt8)) (i := i) (i' := i) (s := d) (s' := d) (pk_same _ _ _)
  have hq1 : ∀ W, (binOp .eql 23 (.agg #[.int .u8 (1 : UInt8).toNat, .int .u8 i.toNat, .string d]) (.agg #[.int .u8 (1 : UInt8).toNat, .int .u8 i.toNat, .string d])).run Try.prog W = .ok (.bool true) W := pk_eql (c := (1 : UInt8)) (c' := (1 : UInt8)) (i := i) (i' := i) (s := d) (s' := d) (pk_same _ _ _)
  have hq2 : ∀ W, (binOp .neq 23 (.agg #[.int .u8 (1 : UInt8).toNat, .int .u8 i.toNat, .string d]) (.agg #[.int .u8 (1 : UInt8).toNat, .int .u8 i.toNat, .string d])).run Try.prog W = .ok (.bool false) W := pk_neq (c := (1 : UInt8)) (c' := (1 : UInt8)) (i := i) (i' := i) (s := d) (s' := d) (pk_same _ _ _)
  have g1 : ((bOf []).toList == ([] : List UInt8)) = true := by rw [toList_bOf]; rfl
  have g2 : (bOf []).toList.isEmpty = true := no_empty
  have g3 : ¬ 4096 < (n.size : Int) + (s.size : Int) + (d.size : Int) := by omega
  have g4 : ((n.size : Int) + (s.size : Int) + (d.size : Int)) < 9223372036854775808 := by omega
  clear h1 h2
  go_enter Try.func4, Try.ntmps4
  go_wp2_with fail
  refine (KQ.out _).mono ?_
  rintro e w1 ⟨rfl, hb1⟩
  have HP := Lib.hid (HP.out.callee hb1)
  have HH1 := Lib.hid (HH0.out.trans (hb1.mono HH0.out.size))
  clear hb1
  have HP := Lib.hid (HP.out.alloc _ : At (w1.alloc (.cells #[.int .u8 0, .int .u8 0, .string (bOf [])] 23)) w.heap.size (1 : UInt8) i d)
  have HA := Lib.hid (at_new w1 (0 : UInt8) (0 : UInt8) (bOf []) : At (w1.alloc (.cells #[.int .u8 0, .int .u8 0, .string (bOf [])] 23)) w1.heap.size (0 : UInt8) (0 : UInt8) (bOf []))
  have HH1 := Lib.hid (HH1.out.alloc HH1.out.size _ : Below w.heap.size w (w1.alloc (.cells #[.int .u8 0, .int .u8 0, .string (bOf [])] 23)))
  go_wp2_with fail
  refine (KS.out _).mono ?_
  rintro e w2 ⟨rfl, hb2⟩
  have HP := Lib.hid (HP.out.callee hb2)
  have HA := Lib.hid (HA.out.callee hb2)
  have HH2 := Lib.hid (HH1.out.trans (hb2.mono HH1.out.size))
  clear hb2
  have HP := Lib.hid (HP.out.alloc _ : At (w2.alloc (.cells #[.int .u8 2, .int .u8 id.toNat, .string D2] 23)) w.heap.size (1 : UInt8) i d)
  have HA := Lib.hid (HA.out.alloc _ : At (w2.alloc (.cells #[.int .u8 2, .int .u8 id.toNat, .string D2] 23)) w1.heap.size (0 : UInt8) (0 : UInt8) (bOf []))
  have HB := Lib.hid (at_new w2 (2 : UInt8) id D2 : At (w2.alloc (.cells #[.int .u8 2, .int .u8 id.toNat, .string D2] 23)) w2.heap.size (2 : UInt8) id D2)
  have HH2 := Lib.hid (HH2.out.alloc HH2.out.size _ : Below w.heap.size w (w2.alloc (.cells #[.int .u8 2, .int .u8 id.toNat, .string D2] 23)))
  have cB0 := HB.out.c0
  have cB1 := HB.out.c1
  have cB2 := HB.out.c2
  go_wp2_with fail
  refine (KN.out _).mono ?_
  rintro e w3 ⟨rfl, hb3⟩
  have HP := Lib.hid (HP.out.callee hb3)
  have HA := Lib.hid (HA.out.callee hb3)
  have HB := Lib.hid (HB.out.callee hb3)
  have HH3 := Lib.hid (HH2.out.trans (hb3.mono HH2.out.size))
  clear hb3
  have cB0 := HB.out.c0
  have cB1 := HB.out.c1
  have cB2 := HB.out.c2
  have cP0 := HP.out.c0
  have cP1 := HP.out.c1
  have cP2 := HP.out.c2
  go_wp2_with fail
  refine (KA2.out _).mono ?_
  rintro e w4 ⟨rfl, hb4⟩
  have HP := Lib.hid (HP.out.callee hb4)
  have HA := Lib.hid (HA.out.callee hb4)
  have HB := Lib.hid (HB.out.callee hb4)
  have HH4 := Lib.hid (HH3.out.trans (hb4.mono HH3.out.size))
  clear hb4
  have cP0 := HP.out.c0
  have cP1 := HP.out.c1
  have cP2 := HP.out.c2
  go_wp2_with fail
  refine (KP.out _).mono ?_
  rintro e w5 ⟨rfl, hb5⟩
  have HP := Lib.hid (HP.out.callee hb5)
  have HA := Lib.hid (HA.out.callee hb5)
  have HB := Lib.hid (HB.out.callee hb5)
  have HH5 := Lib.hid (HH4.out.trans (hb5.mono HH4.out.size))
  clear hb5
  have HP := Lib.hid (HP.out.alloc _ : At (w5.alloc (.cells #[.int .u8 1, .int .u8 i.toNat, .string d] 23)) w.heap.size (1 : UInt8) i d)
  have HA := Lib.hid (HA.out.alloc _ : At (w5.alloc (.cells #[.int .u8 1, .int .u8 i.toNat, .string d] 23)) w1.heap.size (0 : UInt8) (0 : UInt8) (bOf []))
  have HB := Lib.hid (HB.out.alloc _ : At (w5.alloc (.cells #[.int .u8 1, .int .u8 i.toNat, .string d] 23)) w2.heap.size (2 : UInt8) id D2)
  have HC := Lib.hid (at_new w5 (1 : UInt8) i d : At (w5.alloc (.cells #[.int .u8 1, .int .u8 i.toNat, .string d] 23)) w5.heap.size (1 : UInt8) i d)
  have HH5 := Lib.hid (HH5.out.alloc HH5.out.size _ : Below w.heap.size w (w5.alloc (.cells #[.int .u8 1, .int .u8 i.toNat, .string d] 23)))
  have cP0 := HP.out.c0
  have cP1 := HP.out.c1
  have cP2 := HP.out.c2
  have cC0 := HC.out.c0
  have cC1 := HC.out.c1
  have cC2 := HC.out.c2
  go_wp2_with fail
  refine (KN2.out _).mono ?_
  rintro e w6 ⟨rfl, hb6⟩
  have HP := Lib.hid (HP.out.callee hb6)
  have HA := Lib.hid (HA.out.callee hb6)
  have HB := Lib.hid (HB.out.callee hb6)
  have HC := Lib.hid (HC.out.callee hb6)
  have HH6 := Lib.hid (HH5.out.trans (hb6.mono HH5.out.size))
  clear hb6
  have cP0 := HP.out.c0
  have cP1 := HP.out.c1
  have cP2 := HP.out.c2
  go_wp2_with fail
  refine (alive_any _).mono ?_
  rintro e w7 ⟨rfl, hb7⟩
  have HP := Lib.hid (HP.out.callee hb7)
  have HA := Lib.hid (HA.out.callee hb7)
  have HB := Lib.hid (HB.out.callee hb7)
  have HC := Lib.hid (HC.out.callee hb7)
  have HH7 := Lib.hid (HH6.out.trans (hb7.mono HH6.out.size))
  clear hb7
  go_wp2
  go_ret
  exact ⟨rfl, HH7.out⟩

set_option maxHeartbeats 8000000 in
set_option maxRecDepth 100000 in
theorem w01_ask_false (id c i : UInt8) (n s d : ByteArray) (w : World) (hn : n.size ≤ 4096) (hs : s.size ≤ 4096) (hd : d.size ≤ 4096) (hall : (n.size : Int) + (s.size : Int) + (d.size : Int) ≤ 4096) (h1 : joinE [n, s] ≠ 0) (h2 : joinE [s] = 0) (h3 : asE c d = 0) :
    Calls Try.prog 4 #[.int .u8 id.toNat, .string n, .string s, .bool false, .agg #[.int .u8 c.toNat, .int .u8 i.toNat, .string d]] w fun e w' => e = .returned (.bool true) ∧ Below w.heap.size w w' := by
  have HH0 := Lib.hid (Below.refl w.heap.size w)
  have HP := Lib.hid (at_new w c i d : At (w.alloc (.cells #[.int .u8 c.toNat, .int .u8 i.toNat, .string d] 23)) w.heap.size c i d)
  have HH0 := Lib.hid (HH0.out.alloc HH0.out.size _ : Below w.heap.size w (w.alloc (.cells #[.int .u8 c.toNat, .int .u8 i.toNat, .string d] 23)))
  have KQ := Lib.hid (fun w => request_any id n s w (by unfold maxLen; omega) (by unfold maxLen; omega))
  have KS := Lib.hid (fun w => answer_any id false s w (by unfold maxLen; omega))
  rw [pkV_no h1] at KQ
  simp only [if_true, Bool.false_eq_true, if_false] at KS
  have z2 := join_size h2
  have KN := Lib.hid (fun w => answered_any 3 id (joinS [s]) w (by unfold maxLen; simp at z2; omega))
  rw [an_back (.inr rfl) h2, show decide ((3 : UInt8) = 2) = false from rfl] at KN
  rw [pkV_ok h2] at KS
  generalize joinS [s] = D2 at *
  have b4 := beq_self s
  have b3 : ((id.toNat : Int) == id.toNat) = true := by simp
  have KA2 := Lib.hid (fun w => asked_any c i d w (by unfold maxLen; omega))
  have KN2 := Lib.hid (fun w => answered_any c i d w (by unfold maxLen; omega))
  unfold asV at KA2
  unfold anV at KN2
  obtain ⟨hc, hj, hjs, hx, hy⟩ := as_zero h3
  have h4 : anE c d = 8 := by rw [hc]; rfl
  have h4' := an_non (c := c) (d := d) (by rw [h4]; decide)
  rw [h4, h4'.1, h4'.2] at KN2
  rw [h3] at KA2
  have KP := Lib.hid (fun w => request_any i (asT c d 0) (asT c d 1) w (by unfold maxLen; omega) (by unfold maxLen; omega))
  rw [pkV_ok hj, hjs] at KP
  generalize asT c d 0 = x at *
  generalize asT c d 1 = y at *
  clear hj hjs hx hy h3 h4 h4'
  subst hc
  have hq0 : ∀ W, (Op.equalIn 10000 23 (.agg #[.int .u8 (1 : UInt8).toNat, .int .u8 i.toNat, .string d]) (.agg #[.int .u8 (1 : UInt8).toNat, .int .u8 i.toNat, .string d])).run Try.prog W = .ok true W := pk_eq (c := (1 : UInt8)) (c' := (1 : UInt8)) (i := i) (i' := i) (s := d) (s' := d) (pk_same _ _ _)
  have hq1 : ∀ W, (binOp .eql 23 (.agg #[.int .u8 (1 : UInt8).toNat, .int .u8 i.toNat, .string d]) (.agg #[.int .u8 (1 : UInt8).toNat, .int .u8 i.toNat, .string d])).run Try.prog W = .ok (.bool true) W := pk_eql (c := (1 : UInt8)) (c' := (1 : UInt8)) (i := i) (i' := i) (s := d) (s' := d) (pk_same _ _ _)
  have hq2 : ∀ W, (binOp .neq 23 (.agg #[.int .u8 (1 : UInt8).toNat, .int .u8 i.toNat, .string d]) (.agg #[.int .u8 (1 : UInt8).toNat, .int .u8 i.toNat, .string d])).run Try.prog W = .ok (.bool false) W := pk_neq (c := (1 : UInt8)) (c' := (1 : UInt8)) (i := i) (i' := i) (s := d) (s' := d) (pk_same _ _ _)
  have g1 : ((bOf []).toList == ([] : List UInt8)) = true := by rw [toList_bOf]; rfl
  have g2 : (bOf []).toList.isEmpty = true := no_empty
  have g3 : ¬ 4096 < (n.size : Int) + (s.size : Int) + (d.size : Int) := by omega
  have g4 : ((n.size : Int) + (s.size : Int) + (d.size : Int)) < 9223372036854775808 := by omega
  clear h1 h2
  go_enter Try.func4, Try.ntmps4
  go_wp2_with fail
  refine (KQ.out _).mono ?_
  rintro e w1 ⟨rfl, hb1⟩
  have HP := Lib.hid (HP.out.callee hb1)
  have HH1 := Lib.hid (HH0.out.trans (hb1.mono HH0.out.size))
  clear hb1
  have HP := Lib.hid (HP.out.alloc _ : At (w1.alloc (.cells #[.int .u8 0, .int .u8 0, .string (bOf [])] 23)) w.heap.size (1 : UInt8) i d)
  have HA := Lib.hid (at_new w1 (0 : UInt8) (0 : UInt8) (bOf []) : At (w1.alloc (.cells #[.int .u8 0, .int .u8 0, .string (bOf [])] 23)) w1.heap.size (0 : UInt8) (0 : UInt8) (bOf []))
  have HH1 := Lib.hid (HH1.out.alloc HH1.out.size _ : Below w.heap.size w (w1.alloc (.cells #[.int .u8 0, .int .u8 0, .string (bOf [])] 23)))
  go_wp2_with fail
  refine (KS.out _).mono ?_
  rintro e w2 ⟨rfl, hb2⟩
  have HP := Lib.hid (HP.out.callee hb2)
  have HA := Lib.hid (HA.out.callee hb2)
  have HH2 := Lib.hid (HH1.out.trans (hb2.mono HH1.out.size))
  clear hb2
  have HP := Lib.hid (HP.out.alloc _ : At (w2.alloc (.cells #[.int .u8 3, .int .u8 id.toNat, .string D2] 23)) w.heap.size (1 : UInt8) i d)
  have HA := Lib.hid (HA.out.alloc _ : At (w2.alloc (.cells #[.int .u8 3, .int .u8 id.toNat, .string D2] 23)) w1.heap.size (0 : UInt8) (0 : UInt8) (bOf []))
  have HB := Lib.hid (at_new w2 (3 : UInt8) id D2 : At (w2.alloc (.cells #[.int .u8 3, .int .u8 id.toNat, .string D2] 23)) w2.heap.size (3 : UInt8) id D2)
  have HH2 := Lib.hid (HH2.out.alloc HH2.out.size _ : Below w.heap.size w (w2.alloc (.cells #[.int .u8 3, .int .u8 id.toNat, .string D2] 23)))
  have cB0 := HB.out.c0
  have cB1 := HB.out.c1
  have cB2 := HB.out.c2
  go_wp2_with fail
  refine (KN.out _).mono ?_
  rintro e w3 ⟨rfl, hb3⟩
  have HP := Lib.hid (HP.out.callee hb3)
  have HA := Lib.hid (HA.out.callee hb3)
  have HB := Lib.hid (HB.out.callee hb3)
  have HH3 := Lib.hid (HH2.out.trans (hb3.mono HH2.out.size))
  clear hb3
  have cB0 := HB.out.c0
  have cB1 := HB.out.c1
  have cB2 := HB.out.c2
  have cP0 := HP.out.c0
  have cP1 := HP.out.c1
  have cP2 := HP.out.c2
  go_wp2_with fail
  refine (KA2.out _).mono ?_
  rintro e w4 ⟨rfl, hb4⟩
  have HP := Lib.hid (HP.out.callee hb4)
  have HA := Lib.hid (HA.out.callee hb4)
  have HB := Lib.hid (HB.out.callee hb4)
  have HH4 := Lib.hid (HH3.out.trans (hb4.mono HH3.out.size))
  clear hb4
  have cP0 := HP.out.c0
  have cP1 := HP.out.c1
  have cP2 := HP.out.c2
  go_wp2_with fail
  refine (KP.out _).mono ?_
  rintro e w5 ⟨rfl, hb5⟩
  have HP := Lib.hid (HP.out.callee hb5)
  have HA := Lib.hid (HA.out.callee hb5)
  have HB := Lib.hid (HB.out.callee hb5)
  have HH5 := Lib.hid (HH4.out.trans (hb5.mono HH4.out.size))
  clear hb5
  have HP := Lib.hid (HP.out.alloc _ : At (w5.alloc (.cells #[.int .u8 1, .int .u8 i.toNat, .string d] 23)) w.heap.size (1 : UInt8) i d)
  have HA := Lib.hid (HA.out.alloc _ : At (w5.alloc (.cells #[.int .u8 1, .int .u8 i.toNat, .string d] 23)) w1.heap.size (0 : UInt8) (0 : UInt8) (bOf []))
  have HB := Lib.hid (HB.out.alloc _ : At (w5.alloc (.cells #[.int .u8 1, .int .u8 i.toNat, .string d] 23)) w2.heap.size (3 : UInt8) id D2)
  have HC := Lib.hid (at_new w5 (1 : UInt8) i d : At (w5.alloc (.cells #[.int .u8 1, .int .u8 i.toNat, .string d] 23)) w5.heap.size (1 : UInt8) i d)
  have HH5 := Lib.hid (HH5.out.alloc HH5.out.size _ : Below w.heap.size w (w5.alloc (.cells #[.int .u8 1, .int .u8 i.toNat, .string d] 23)))
  have cP0 := HP.out.c0
  have cP1 := HP.out.c1
  have cP2 := HP.out.c2
  have cC0 := HC.out.c0
  have cC1 := HC.out.c1
  have cC2 := HC.out.c2
  go_wp2_with fail
  refine (KN2.out _).mono ?_
  rintro e w6 ⟨rfl, hb6⟩
  have HP := Lib.hid (HP.out.callee hb6)
  have HA := Lib.hid (HA.out.callee hb6)
  have HB := Lib.hid (HB.out.callee hb6)
  have HC := Lib.hid (HC.out.callee hb6)
  have HH6 := Lib.hid (HH5.out.trans (hb6.mono HH5.out.size))
  clear hb6
  have cP0 := HP.out.c0
  have cP1 := HP.out.c1
  have cP2 := HP.out.c2
  go_wp2_with fail
  refine (alive_any _).mono ?_
  rintro e w7 ⟨rfl, hb7⟩
  have HP := Lib.hid (HP.out.callee hb7)
  have HA := Lib.hid (HA.out.callee hb7)
  have HB := Lib.hid (HB.out.callee hb7)
  have HC := Lib.hid (HC.out.callee hb7)
  have HH7 := Lib.hid (HH6.out.trans (hb7.mono HH6.out.size))
  clear hb7
  go_wp2
  go_ret
  exact ⟨rfl, HH7.out⟩

set_option maxHeartbeats 8000000 in
set_option maxRecDepth 100000 in
theorem w01_ans_true (id c i : UInt8) (n s d : ByteArray) (w : World) (hn : n.size ≤ 4096) (hs : s.size ≤ 4096) (hd : d.size ≤ 4096) (hall : (n.size : Int) + (s.size : Int) + (d.size : Int) ≤ 4096) (h1 : joinE [n, s] ≠ 0) (h2 : joinE [s] = 0) (h4 : anE c d = 0) :
    Calls Try.prog 4 #[.int .u8 id.toNat, .string n, .string s, .bool true, .agg #[.int .u8 c.toNat, .int .u8 i.toNat, .string d]] w fun e w' => e = .returned (.bool true) ∧ Below w.heap.size w w' := by
  have HH0 := Lib.hid (Below.refl w.heap.size w)
  have HP := Lib.hid (at_new w c i d : At (w.alloc (.cells #[.int .u8 c.toNat, .int .u8 i.toNat, .string d] 23)) w.heap.size c i d)
  have HH0 := Lib.hid (HH0.out.alloc HH0.out.size _ : Below w.heap.size w (w.alloc (.cells #[.int .u8 c.toNat, .int .u8 i.toNat, .string d] 23)))
  have KQ := Lib.hid (fun w => request_any id n s w (by unfold maxLen; omega) (by unfold maxLen; omega))
  have KS := Lib.hid (fun w => answer_any id true s w (by unfold maxLen; omega))
  rw [pkV_no h1] at KQ
  simp only [if_true, Bool.false_eq_true, if_false] at KS
  have z2 := join_size h2
  have KN := Lib.hid (fun w => answered_any 2 id (joinS [s]) w (by unfold maxLen; simp at z2; omega))
  rw [an_back (.inl rfl) h2, show decide ((2 : UInt8) = 2) = true from rfl] at KN
  rw [pkV_ok h2] at KS
  generalize joinS [s] = D2 at *
  have b4 := beq_self s
  have b3 : ((id.toNat : Int) == id.toNat) = true := by simp
  have KA2 := Lib.hid (fun w => asked_any c i d w (by unfold maxLen; omega))
  have KN2 := Lib.hid (fun w => answered_any c i d w (by unfold maxLen; omega))
  unfold asV at KA2
  unfold anV at KN2
  obtain ⟨hc, hw, hcc, hj, hjs, hm⟩ := an_zero h4
  have h3 : asE c d = 8 := by rcases hc with rfl | rfl <;> rfl
  have h3' := as_non (c := c) (d := d) (by rw [h3]; decide)
  rw [h3, h3'.1, h3'.2] at KA2
  rw [h4] at KN2
  have KP := Lib.hid (fun w => answer_any i (anW c d) (anT c d) w (by unfold maxLen; omega))
  rw [pkV_ok hj, hjs, hcc] at KP
  generalize anT c d = x at *
  generalize anW c d = vw at *
  clear hj hjs hm h3 h4 h3' hw hcc hc
  have hq0 : ∀ W, (Op.equalIn 10000 23 (.agg #[.int .u8 c.toNat, .int .u8 i.toNat, .string d]) (.agg #[.int .u8 c.toNat, .int .u8 i.toNat, .string d])).run Try.prog W = .ok true W := pk_eq (c := c) (c' := c) (i := i) (i' := i) (s := d) (s' := d) (pk_same _ _ _)
  have hq1 : ∀ W, (binOp .eql 23 (.agg #[.int .u8 c.toNat, .int .u8 i.toNat, .string d]) (.agg #[.int .u8 c.toNat, .int .u8 i.toNat, .string d])).run Try.prog W = .ok (.bool true) W := pk_eql (c := c) (c' := c) (i := i) (i' := i) (s := d) (s' := d) (pk_same _ _ _)
  have hq2 : ∀ W, (binOp .neq 23 (.agg #[.int .u8 c.toNat, .int .u8 i.toNat, .string d]) (.agg #[.int .u8 c.toNat, .int .u8 i.toNat, .string d])).run Try.prog W = .ok (.bool false) W := pk_neq (c := c) (c' := c) (i := i) (i' := i) (s := d) (s' := d) (pk_same _ _ _)
  have g1 : ((bOf []).toList == ([] : List UInt8)) = true := by rw [toList_bOf]; rfl
  have g2 : (bOf []).toList.isEmpty = true := no_empty
  have g3 : ¬ 4096 < (n.size : Int) + (s.size : Int) + (d.size : Int) := by omega
  have g4 : ((n.size : Int) + (s.size : Int) + (d.size : Int)) < 9223372036854775808 := by omega
  clear h1 h2
  go_enter Try.func4, Try.ntmps4
  go_wp2_with fail
  refine (KQ.out _).mono ?_
  rintro e w1 ⟨rfl, hb1⟩
  have HP := Lib.hid (HP.out.callee hb1)
  have HH1 := Lib.hid (HH0.out.trans (hb1.mono HH0.out.size))
  clear hb1
  have HP := Lib.hid (HP.out.alloc _ : At (w1.alloc (.cells #[.int .u8 0, .int .u8 0, .string (bOf [])] 23)) w.heap.size c i d)
  have HA := Lib.hid (at_new w1 (0 : UInt8) (0 : UInt8) (bOf []) : At (w1.alloc (.cells #[.int .u8 0, .int .u8 0, .string (bOf [])] 23)) w1.heap.size (0 : UInt8) (0 : UInt8) (bOf []))
  have HH1 := Lib.hid (HH1.out.alloc HH1.out.size _ : Below w.heap.size w (w1.alloc (.cells #[.int .u8 0, .int .u8 0, .string (bOf [])] 23)))
  go_wp2_with fail
  refine (KS.out _).mono ?_
  rintro e w2 ⟨rfl, hb2⟩
  have HP := Lib.hid (HP.out.callee hb2)
  have HA := Lib.hid (HA.out.callee hb2)
  have HH2 := Lib.hid (HH1.out.trans (hb2.mono HH1.out.size))
  clear hb2
  have HP := Lib.hid (HP.out.alloc _ : At (w2.alloc (.cells #[.int .u8 2, .int .u8 id.toNat, .string D2] 23)) w.heap.size c i d)
  have HA := Lib.hid (HA.out.alloc _ : At (w2.alloc (.cells #[.int .u8 2, .int .u8 id.toNat, .string D2] 23)) w1.heap.size (0 : UInt8) (0 : UInt8) (bOf []))
  have HB := Lib.hid (at_new w2 (2 : UInt8) id D2 : At (w2.alloc (.cells #[.int .u8 2, .int .u8 id.toNat, .string D2] 23)) w2.heap.size (2 : UInt8) id D2)
  have HH2 := Lib.hid (HH2.out.alloc HH2.out.size _ : Below w.heap.size w (w2.alloc (.cells #[.int .u8 2, .int .u8 id.toNat, .string D2] 23)))
  have cB0 := HB.out.c0
  have cB1 := HB.out.c1
  have cB2 := HB.out.c2
  go_wp2_with fail
  refine (KN.out _).mono ?_
  rintro e w3 ⟨rfl, hb3⟩
  have HP := Lib.hid (HP.out.callee hb3)
  have HA := Lib.hid (HA.out.callee hb3)
  have HB := Lib.hid (HB.out.callee hb3)
  have HH3 := Lib.hid (HH2.out.trans (hb3.mono HH2.out.size))
  clear hb3
  have cB0 := HB.out.c0
  have cB1 := HB.out.c1
  have cB2 := HB.out.c2
  have cP0 := HP.out.c0
  have cP1 := HP.out.c1
  have cP2 := HP.out.c2
  go_wp2_with fail
  refine (KA2.out _).mono ?_
  rintro e w4 ⟨rfl, hb4⟩
  have HP := Lib.hid (HP.out.callee hb4)
  have HA := Lib.hid (HA.out.callee hb4)
  have HB := Lib.hid (HB.out.callee hb4)
  have HH4 := Lib.hid (HH3.out.trans (hb4.mono HH3.out.size))
  clear hb4
  have cP0 := HP.out.c0
  have cP1 := HP.out.c1
  have cP2 := HP.out.c2
  go_wp2_with fail
  refine (KN2.out _).mono ?_
  rintro e w5 ⟨rfl, hb5⟩
  have HP := Lib.hid (HP.out.callee hb5)
  have HA := Lib.hid (HA.out.callee hb5)
  have HB := Lib.hid (HB.out.callee hb5)
  have HH5 := Lib.hid (HH4.out.trans (hb5.mono HH4.out.size))
  clear hb5
  have cP0 := HP.out.c0
  have cP1 := HP.out.c1
  have cP2 := HP.out.c2
  go_wp2_with fail
  refine (KP.out _).mono ?_
  rintro e w6 ⟨rfl, hb6⟩
  have HP := Lib.hid (HP.out.callee hb6)
  have HA := Lib.hid (HA.out.callee hb6)
  have HB := Lib.hid (HB.out.callee hb6)
  have HH6 := Lib.hid (HH5.out.trans (hb6.mono HH5.out.size))
  clear hb6
  have HP := Lib.hid (HP.out.alloc _ : At (w6.alloc (.cells #[.int .u8 c.toNat, .int .u8 i.toNat, .string d] 23)) w.heap.size c i d)
  have HA := Lib.hid (HA.out.alloc _ : At (w6.alloc (.cells #[.int .u8 c.toNat, .int .u8 i.toNat, .string d] 23)) w1.heap.size (0 : UInt8) (0 : UInt8) (bOf []))
  have HB := Lib.hid (HB.out.alloc _ : At (w6.alloc (.cells #[.int .u8 c.toNat, .int .u8 i.toNat, .string d] 23)) w2.heap.size (2 : UInt8) id D2)
  have HC := Lib.hid (at_new w6 c i d : At (w6.alloc (.cells #[.int .u8 c.toNat, .int .u8 i.toNat, .string d] 23)) w6.heap.size c i d)
  have HH6 := Lib.hid (HH6.out.alloc HH6.out.size _ : Below w.heap.size w (w6.alloc (.cells #[.int .u8 c.toNat, .int .u8 i.toNat, .string d] 23)))
  have cP0 := HP.out.c0
  have cP1 := HP.out.c1
  have cP2 := HP.out.c2
  have cC0 := HC.out.c0
  have cC1 := HC.out.c1
  have cC2 := HC.out.c2
  go_wp2_with fail
  refine (alive_any _).mono ?_
  rintro e w7 ⟨rfl, hb7⟩
  have HP := Lib.hid (HP.out.callee hb7)
  have HA := Lib.hid (HA.out.callee hb7)
  have HB := Lib.hid (HB.out.callee hb7)
  have HC := Lib.hid (HC.out.callee hb7)
  have HH7 := Lib.hid (HH6.out.trans (hb7.mono HH6.out.size))
  clear hb7
  go_wp2
  go_ret
  exact ⟨rfl, HH7.out⟩

set_option maxHeartbeats 8000000 in
set_option maxRecDepth 100000 in
theorem w01_ans_false (id c i : UInt8) (n s d : ByteArray) (w : World) (hn : n.size ≤ 4096) (hs : s.size ≤ 4096) (hd : d.size ≤ 4096) (hall : (n.size : Int) + (s.size : Int) + (d.size : Int) ≤ 4096) (h1 : joinE [n, s] ≠ 0) (h2 : joinE [s] = 0) (h4 : anE c d = 0) :
    Calls Try.prog 4 #[.int .u8 id.toNat, .string n, .string s, .bool false, .agg #[.int .u8 c.toNat, .int .u8 i.toNat, .string d]] w fun e w' => e = .returned (.bool true) ∧ Below w.heap.size w w' := by
  have HH0 := Lib.hid (Below.refl w.heap.size w)
  have HP := Lib.hid (at_new w c i d : At (w.alloc (.cells #[.int .u8 c.toNat, .int .u8 i.toNat, .string d] 23)) w.heap.size c i d)
  have HH0 := Lib.hid (HH0.out.alloc HH0.out.size _ : Below w.heap.size w (w.alloc (.cells #[.int .u8 c.toNat, .int .u8 i.toNat, .string d] 23)))
  have KQ := Lib.hid (fun w => request_any id n s w (by unfold maxLen; omega) (by unfold maxLen; omega))
  have KS := Lib.hid (fun w => answer_any id false s w (by unfold maxLen; omega))
  rw [pkV_no h1] at KQ
  simp only [if_true, Bool.false_eq_true, if_false] at KS
  have z2 := join_size h2
  have KN := Lib.hid (fun w => answered_any 3 id (joinS [s]) w (by unfold maxLen; simp at z2; omega))
  rw [an_back (.inr rfl) h2, show decide ((3 : UInt8) = 2) = false from rfl] at KN
  rw [pkV_ok h2] at KS
  generalize joinS [s] = D2 at *
  have b4 := beq_self s
  have b3 : ((id.toNat : Int) == id.toNat) = true := by simp
  have KA2 := Lib.hid (fun w => asked_any c i d w (by unfold maxLen; omega))
  have KN2 := Lib.hid (fun w => answered_any c i d w (by unfold maxLen; omega))
  unfold asV at KA2
  unfold anV at KN2
  obtain ⟨hc, hw, hcc, hj, hjs, hm⟩ := an_zero h4
  have h3 : asE c d = 8 := by rcases hc with rfl | rfl <;> rfl
  have h3' := as_non (c := c) (d := d) (by rw [h3]; decide)
  rw [h3, h3'.1, h3'.2] at KA2
  rw [h4] at KN2
  have KP := Lib.hid (fun w => answer_any i (anW c d) (anT c d) w (by unfold maxLen; omega))
  rw [pkV_ok hj, hjs, hcc] at KP
  generalize anT c d = x at *
  generalize anW c d = vw at *
  clear hj hjs hm h3 h4 h3' hw hcc hc
  have hq0 : ∀ W, (Op.equalIn 10000 23 (.agg #[.int .u8 c.toNat, .int .u8 i.toNat, .string d]) (.agg #[.int .u8 c.toNat, .int .u8 i.toNat, .string d])).run Try.prog W = .ok true W := pk_eq (c := c) (c' := c) (i := i) (i' := i) (s := d) (s' := d) (pk_same _ _ _)
  have hq1 : ∀ W, (binOp .eql 23 (.agg #[.int .u8 c.toNat, .int .u8 i.toNat, .string d]) (.agg #[.int .u8 c.toNat, .int .u8 i.toNat, .string d])).run Try.prog W = .ok (.bool true) W := pk_eql (c := c) (c' := c) (i := i) (i' := i) (s := d) (s' := d) (pk_same _ _ _)
  have hq2 : ∀ W, (binOp .neq 23 (.agg #[.int .u8 c.toNat, .int .u8 i.toNat, .string d]) (.agg #[.int .u8 c.toNat, .int .u8 i.toNat, .string d])).run Try.prog W = .ok (.bool false) W := pk_neq (c := c) (c' := c) (i := i) (i' := i) (s := d) (s' := d) (pk_same _ _ _)
  have g1 : ((bOf []).toList == ([] : List UInt8)) = true := by rw [toList_bOf]; rfl
  have g2 : (bOf []).toList.isEmpty = true := no_empty
  have g3 : ¬ 4096 < (n.size : Int) + (s.size : Int) + (d.size : Int) := by omega
  have g4 : ((n.size : Int) + (s.size : Int) + (d.size : Int)) < 9223372036854775808 := by omega
  clear h1 h2
  go_enter Try.func4, Try.ntmps4
  go_wp2_with fail
  refine (KQ.out _).mono ?_
  rintro e w1 ⟨rfl, hb1⟩
  have HP := Lib.hid (HP.out.callee hb1)
  have HH1 := Lib.hid (HH0.out.trans (hb1.mono HH0.out.size))
  clear hb1
  have HP := Lib.hid (HP.out.alloc _ : At (w1.alloc (.cells #[.int .u8 0, .int .u8 0, .string (bOf [])] 23)) w.heap.size c i d)
  have HA := Lib.hid (at_new w1 (0 : UInt8) (0 : UInt8) (bOf []) : At (w1.alloc (.cells #[.int .u8 0, .int .u8 0, .string (bOf [])] 23)) w1.heap.size (0 : UInt8) (0 : UInt8) (bOf []))
  have HH1 := Lib.hid (HH1.out.alloc HH1.out.size _ : Below w.heap.size w (w1.alloc (.cells #[.int .u8 0, .int .u8 0, .string (bOf [])] 23)))
  go_wp2_with fail
  refine (KS.out _).mono ?_
  rintro e w2 ⟨rfl, hb2⟩
  have HP := Lib.hid (HP.out.callee hb2)
  have HA := Lib.hid (HA.out.callee hb2)
  have HH2 := Lib.hid (HH1.out.trans (hb2.mono HH1.out.size))
  clear hb2
  have HP := Lib.hid (HP.out.alloc _ : At (w2.alloc (.cells #[.int .u8 3, .int .u8 id.toNat, .string D2] 23)) w.heap.size c i d)
  have HA := Lib.hid (HA.out.alloc _ : At (w2.alloc (.cells #[.int .u8 3, .int .u8 id.toNat, .string D2] 23)) w1.heap.size (0 : UInt8) (0 : UInt8) (bOf []))
  have HB := Lib.hid (at_new w2 (3 : UInt8) id D2 : At (w2.alloc (.cells #[.int .u8 3, .int .u8 id.toNat, .string D2] 23)) w2.heap.size (3 : UInt8) id D2)
  have HH2 := Lib.hid (HH2.out.alloc HH2.out.size _ : Below w.heap.size w (w2.alloc (.cells #[.int .u8 3, .int .u8 id.toNat, .string D2] 23)))
  have cB0 := HB.out.c0
  have cB1 := HB.out.c1
  have cB2 := HB.out.c2
  go_wp2_with fail
  refine (KN.out _).mono ?_
  rintro e w3 ⟨rfl, hb3⟩
  have HP := Lib.hid (HP.out.callee hb3)
  have HA := Lib.hid (HA.out.callee hb3)
  have HB := Lib.hid (HB.out.callee hb3)
  have HH3 := Lib.hid (HH2.out.trans (hb3.mono HH2.out.size))
  clear hb3
  have cB0 := HB.out.c0
  have cB1 := HB.out.c1
  have cB2 := HB.out.c2
  have cP0 := HP.out.c0
  have cP1 := HP.out.c1
  have cP2 := HP.out.c2
  go_wp2_with fail
  refine (KA2.out _).mono ?_
  rintro e w4 ⟨rfl, hb4⟩
  have HP := Lib.hid (HP.out.callee hb4)
  have HA := Lib.hid (HA.out.callee hb4)
  have HB := Lib.hid (HB.out.callee hb4)
  have HH4 := Lib.hid (HH3.out.trans (hb4.mono HH3.out.size))
  clear hb4
  have cP0 := HP.out.c0
  have cP1 := HP.out.c1
  have cP2 := HP.out.c2
  go_wp2_with fail
  refine (KN2.out _).mono ?_
  rintro e w5 ⟨rfl, hb5⟩
  have HP := Lib.hid (HP.out.callee hb5)
  have HA := Lib.hid (HA.out.callee hb5)
  have HB := Lib.hid (HB.out.callee hb5)
  have HH5 := Lib.hid (HH4.out.trans (hb5.mono HH4.out.size))
  clear hb5
  have cP0 := HP.out.c0
  have cP1 := HP.out.c1
  have cP2 := HP.out.c2
  go_wp2_with fail
  refine (KP.out _).mono ?_
  rintro e w6 ⟨rfl, hb6⟩
  have HP := Lib.hid (HP.out.callee hb6)
  have HA := Lib.hid (HA.out.callee hb6)
  have HB := Lib.hid (HB.out.callee hb6)
  have HH6 := Lib.hid (HH5.out.trans (hb6.mono HH5.out.size))
  clear hb6
  have HP := Lib.hid (HP.out.alloc _ : At (w6.alloc (.cells #[.int .u8 c.toNat, .int .u8 i.toNat, .string d] 23)) w.heap.size c i d)
  have HA := Lib.hid (HA.out.alloc _ : At (w6.alloc (.cells #[.int .u8 c.toNat, .int .u8 i.toNat, .string d] 23)) w1.heap.size (0 : UInt8) (0 : UInt8) (bOf []))
  have HB := Lib.hid (HB.out.alloc _ : At (w6.alloc (.cells #[.int .u8 c.toNat, .int .u8 i.toNat, .string d] 23)) w2.heap.size (3 : UInt8) id D2)
  have HC := Lib.hid (at_new w6 c i d : At (w6.alloc (.cells #[.int .u8 c.toNat, .int .u8 i.toNat, .string d] 23)) w6.heap.size c i d)
  have HH6 := Lib.hid (HH6.out.alloc HH6.out.size _ : Below w.heap.size w (w6.alloc (.cells #[.int .u8 c.toNat, .int .u8 i.toNat, .string d] 23)))
  have cP0 := HP.out.c0
  have cP1 := HP.out.c1
  have cP2 := HP.out.c2
  have cC0 := HC.out.c0
  have cC1 := HC.out.c1
  have cC2 := HC.out.c2
  go_wp2_with fail
  refine (alive_any _).mono ?_
  rintro e w7 ⟨rfl, hb7⟩
  have HP := Lib.hid (HP.out.callee hb7)
  have HA := Lib.hid (HA.out.callee hb7)
  have HB := Lib.hid (HB.out.callee hb7)
  have HC := Lib.hid (HC.out.callee hb7)
  have HH7 := Lib.hid (HH6.out.trans (hb7.mono HH6.out.size))
  clear hb7
  go_wp2
  go_ret
  exact ⟨rfl, HH7.out⟩

set_option maxHeartbeats 8000000 in
set_option maxRecDepth 100000 in
theorem w01_none_true (id c i : UInt8) (n s d : ByteArray) (w : World) (hn : n.size ≤ 4096) (hs : s.size ≤ 4096) (hd : d.size ≤ 4096) (hall : (n.size : Int) + (s.size : Int) + (d.size : Int) ≤ 4096) (h1 : joinE [n, s] ≠ 0) (h2 : joinE [s] = 0) (h3 : asE c d ≠ 0) (h4 : anE c d ≠ 0) :
    Calls Try.prog 4 #[.int .u8 id.toNat, .string n, .string s, .bool true, .agg #[.int .u8 c.toNat, .int .u8 i.toNat, .string d]] w fun e w' => e = .returned (.bool true) ∧ Below w.heap.size w w' := by
  have HH0 := Lib.hid (Below.refl w.heap.size w)
  have HP := Lib.hid (at_new w c i d : At (w.alloc (.cells #[.int .u8 c.toNat, .int .u8 i.toNat, .string d] 23)) w.heap.size c i d)
  have HH0 := Lib.hid (HH0.out.alloc HH0.out.size _ : Below w.heap.size w (w.alloc (.cells #[.int .u8 c.toNat, .int .u8 i.toNat, .string d] 23)))
  have KQ := Lib.hid (fun w => request_any id n s w (by unfold maxLen; omega) (by unfold maxLen; omega))
  have KS := Lib.hid (fun w => answer_any id true s w (by unfold maxLen; omega))
  rw [pkV_no h1] at KQ
  simp only [if_true, Bool.false_eq_true, if_false] at KS
  have z2 := join_size h2
  have KN := Lib.hid (fun w => answered_any 2 id (joinS [s]) w (by unfold maxLen; simp at z2; omega))
  rw [an_back (.inl rfl) h2, show decide ((2 : UInt8) = 2) = true from rfl] at KN
  rw [pkV_ok h2] at KS
  generalize joinS [s] = D2 at *
  have b4 := beq_self s
  have b3 : ((id.toNat : Int) == id.toNat) = true := by simp
  have KA2 := Lib.hid (fun w => asked_any c i d w (by unfold maxLen; omega))
  have KN2 := Lib.hid (fun w => answered_any c i d w (by unfold maxLen; omega))
  unfold asV at KA2
  unfold anV at KN2
  have h3' := as_non h3
  have h4' := an_non h4
  rw [h3'.1, h3'.2] at KA2
  rw [h4'.1, h4'.2] at KN2
  have k3 : (asE c d == 0) = false := by rw [beq_eq_false_iff_ne]; exact h3
  have k4 : (anE c d == 0) = false := by rw [beq_eq_false_iff_ne]; exact h4
  generalize asE c d = E3 at *
  generalize anE c d = E4 at *
  clear h3 h4 h3' h4'
  have g1 : ((bOf []).toList == ([] : List UInt8)) = true := by rw [toList_bOf]; rfl
  have g2 : (bOf []).toList.isEmpty = true := no_empty
  have g3 : ¬ 4096 < (n.size : Int) + (s.size : Int) + (d.size : Int) := by omega
  have g4 : ((n.size : Int) + (s.size : Int) + (d.size : Int)) < 9223372036854775808 := by omega
  clear h1 h2
  go_enter Try.func4, Try.ntmps4
  go_wp2_with fail
  refine (KQ.out _).mono ?_
  rintro e w1 ⟨rfl, hb1⟩
  have HP := Lib.hid (HP.out.callee hb1)
  have HH1 := Lib.hid (HH0.out.trans (hb1.mono HH0.out.size))
  clear hb1
  have HP := Lib.hid (HP.out.alloc _ : At (w1.alloc (.cells #[.int .u8 0, .int .u8 0, .string (bOf [])] 23)) w.heap.size c i d)
  have HA := Lib.hid (at_new w1 (0 : UInt8) (0 : UInt8) (bOf []) : At (w1.alloc (.cells #[.int .u8 0, .int .u8 0, .string (bOf [])] 23)) w1.heap.size (0 : UInt8) (0 : UInt8) (bOf []))
  have HH1 := Lib.hid (HH1.out.alloc HH1.out.size _ : Below w.heap.size w (w1.alloc (.cells #[.int .u8 0, .int .u8 0, .string (bOf [])] 23)))
  go_wp2_with fail
  refine (KS.out _).mono ?_
  rintro e w2 ⟨rfl, hb2⟩
  have HP := Lib.hid (HP.out.callee hb2)
  have HA := Lib.hid (HA.out.callee hb2)
  have HH2 := Lib.hid (HH1.out.trans (hb2.mono HH1.out.size))
  clear hb2
  have HP := Lib.hid (HP.out.alloc _ : At (w2.alloc (.cells #[.int .u8 2, .int .u8 id.toNat, .string D2] 23)) w.heap.size c i d)
  have HA := Lib.hid (HA.out.alloc _ : At (w2.alloc (.cells #[.int .u8 2, .int .u8 id.toNat, .string D2] 23)) w1.heap.size (0 : UInt8) (0 : UInt8) (bOf []))
  have HB := Lib.hid (at_new w2 (2 : UInt8) id D2 : At (w2.alloc (.cells #[.int .u8 2, .int .u8 id.toNat, .string D2] 23)) w2.heap.size (2 : UInt8) id D2)
  have HH2 := Lib.hid (HH2.out.alloc HH2.out.size _ : Below w.heap.size w (w2.alloc (.cells #[.int .u8 2, .int .u8 id.toNat, .string D2] 23)))
  have cB0 := HB.out.c0
  have cB1 := HB.out.c1
  have cB2 := HB.out.c2
  go_wp2_with fail
  refine (KN.out _).mono ?_
  rintro e w3 ⟨rfl, hb3⟩
  have HP := Lib.hid (HP.out.callee hb3)
  have HA := Lib.hid (HA.out.callee hb3)
  have HB := Lib.hid (HB.out.callee hb3)
  have HH3 := Lib.hid (HH2.out.trans (hb3.mono HH2.out.size))
  clear hb3
  have cB0 := HB.out.c0
  have cB1 := HB.out.c1
  have cB2 := HB.out.c2
  have cP0 := HP.out.c0
  have cP1 := HP.out.c1
  have cP2 := HP.out.c2
  go_wp2_with fail
  refine (KA2.out _).mono ?_
  rintro e w4 ⟨rfl, hb4⟩
  have HP := Lib.hid (HP.out.callee hb4)
  have HA := Lib.hid (HA.out.callee hb4)
  have HB := Lib.hid (HB.out.callee hb4)
  have HH4 := Lib.hid (HH3.out.trans (hb4.mono HH3.out.size))
  clear hb4
  have cP0 := HP.out.c0
  have cP1 := HP.out.c1
  have cP2 := HP.out.c2
  go_wp2_with fail
  refine (KN2.out _).mono ?_
  rintro e w5 ⟨rfl, hb5⟩
  have HP := Lib.hid (HP.out.callee hb5)
  have HA := Lib.hid (HA.out.callee hb5)
  have HB := Lib.hid (HB.out.callee hb5)
  have HH5 := Lib.hid (HH4.out.trans (hb5.mono HH4.out.size))
  clear hb5
  have cP0 := HP.out.c0
  have cP1 := HP.out.c1
  have cP2 := HP.out.c2
  go_wp2_with fail
  refine (alive_any _).mono ?_
  rintro e w6 ⟨rfl, hb6⟩
  have HP := Lib.hid (HP.out.callee hb6)
  have HA := Lib.hid (HA.out.callee hb6)
  have HB := Lib.hid (HB.out.callee hb6)
  have HH6 := Lib.hid (HH5.out.trans (hb6.mono HH5.out.size))
  clear hb6
  go_wp2
  go_ret
  exact ⟨rfl, HH6.out⟩

set_option maxHeartbeats 8000000 in
set_option maxRecDepth 100000 in
theorem w01_none_false (id c i : UInt8) (n s d : ByteArray) (w : World) (hn : n.size ≤ 4096) (hs : s.size ≤ 4096) (hd : d.size ≤ 4096) (hall : (n.size : Int) + (s.size : Int) + (d.size : Int) ≤ 4096) (h1 : joinE [n, s] ≠ 0) (h2 : joinE [s] = 0) (h3 : asE c d ≠ 0) (h4 : anE c d ≠ 0) :
    Calls Try.prog 4 #[.int .u8 id.toNat, .string n, .string s, .bool false, .agg #[.int .u8 c.toNat, .int .u8 i.toNat, .string d]] w fun e w' => e = .returned (.bool true) ∧ Below w.heap.size w w' := by
  have HH0 := Lib.hid (Below.refl w.heap.size w)
  have HP := Lib.hid (at_new w c i d : At (w.alloc (.cells #[.int .u8 c.toNat, .int .u8 i.toNat, .string d] 23)) w.heap.size c i d)
  have HH0 := Lib.hid (HH0.out.alloc HH0.out.size _ : Below w.heap.size w (w.alloc (.cells #[.int .u8 c.toNat, .int .u8 i.toNat, .string d] 23)))
  have KQ := Lib.hid (fun w => request_any id n s w (by unfold maxLen; omega) (by unfold maxLen; omega))
  have KS := Lib.hid (fun w => answer_any id false s w (by unfold maxLen; omega))
  rw [pkV_no h1] at KQ
  simp only [if_true, Bool.false_eq_true, if_false] at KS
  have z2 := join_size h2
  have KN := Lib.hid (fun w => answered_any 3 id (joinS [s]) w (by unfold maxLen; simp at z2; omega))
  rw [an_back (.inr rfl) h2, show decide ((3 : UInt8) = 2) = false from rfl] at KN
  rw [pkV_ok h2] at KS
  generalize joinS [s] = D2 at *
  have b4 := beq_self s
  have b3 : ((id.toNat : Int) == id.toNat) = true := by simp
  have KA2 := Lib.hid (fun w => asked_any c i d w (by unfold maxLen; omega))
  have KN2 := Lib.hid (fun w => answered_any c i d w (by unfold maxLen; omega))
  unfold asV at KA2
  unfold anV at KN2
  have h3' := as_non h3
  have h4' := an_non h4
  rw [h3'.1, h3'.2] at KA2
  rw [h4'.1, h4'.2] at KN2
  have k3 : (asE c d == 0) = false := by rw [beq_eq_false_iff_ne]; exact h3
  have k4 : (anE c d == 0) = false := by rw [beq_eq_false_iff_ne]; exact h4
  generalize asE c d = E3 at *
  generalize anE c d = E4 at *
  clear h3 h4 h3' h4'
  have g1 : ((bOf []).toList == ([] : List UInt8)) = true := by rw [toList_bOf]; rfl
  have g2 : (bOf []).toList.isEmpty = true := no_empty
  have g3 : ¬ 4096 < (n.size : Int) + (s.size : Int) + (d.size : Int) := by omega
  have g4 : ((n.size : Int) + (s.size : Int) + (d.size : Int)) < 9223372036854775808 := by omega
  clear h1 h2
  go_enter Try.func4, Try.ntmps4
  go_wp2_with fail
  refine (KQ.out _).mono ?_
  rintro e w1 ⟨rfl, hb1⟩
  have HP := Lib.hid (HP.out.callee hb1)
  have HH1 := Lib.hid (HH0.out.trans (hb1.mono HH0.out.size))
  clear hb1
  have HP := Lib.hid (HP.out.alloc _ : At (w1.alloc (.cells #[.int .u8 0, .int .u8 0, .string (bOf [])] 23)) w.heap.size c i d)
  have HA := Lib.hid (at_new w1 (0 : UInt8) (0 : UInt8) (bOf []) : At (w1.alloc (.cells #[.int .u8 0, .int .u8 0, .string (bOf [])] 23)) w1.heap.size (0 : UInt8) (0 : UInt8) (bOf []))
  have HH1 := Lib.hid (HH1.out.alloc HH1.out.size _ : Below w.heap.size w (w1.alloc (.cells #[.int .u8 0, .int .u8 0, .string (bOf [])] 23)))
  go_wp2_with fail
  refine (KS.out _).mono ?_
  rintro e w2 ⟨rfl, hb2⟩
  have HP := Lib.hid (HP.out.callee hb2)
  have HA := Lib.hid (HA.out.callee hb2)
  have HH2 := Lib.hid (HH1.out.trans (hb2.mono HH1.out.size))
  clear hb2
  have HP := Lib.hid (HP.out.alloc _ : At (w2.alloc (.cells #[.int .u8 3, .int .u8 id.toNat, .string D2] 23)) w.heap.size c i d)
  have HA := Lib.hid (HA.out.alloc _ : At (w2.alloc (.cells #[.int .u8 3, .int .u8 id.toNat, .string D2] 23)) w1.heap.size (0 : UInt8) (0 : UInt8) (bOf []))
  have HB := Lib.hid (at_new w2 (3 : UInt8) id D2 : At (w2.alloc (.cells #[.int .u8 3, .int .u8 id.toNat, .string D2] 23)) w2.heap.size (3 : UInt8) id D2)
  have HH2 := Lib.hid (HH2.out.alloc HH2.out.size _ : Below w.heap.size w (w2.alloc (.cells #[.int .u8 3, .int .u8 id.toNat, .string D2] 23)))
  have cB0 := HB.out.c0
  have cB1 := HB.out.c1
  have cB2 := HB.out.c2
  go_wp2_with fail
  refine (KN.out _).mono ?_
  rintro e w3 ⟨rfl, hb3⟩
  have HP := Lib.hid (HP.out.callee hb3)
  have HA := Lib.hid (HA.out.callee hb3)
  have HB := Lib.hid (HB.out.callee hb3)
  have HH3 := Lib.hid (HH2.out.trans (hb3.mono HH2.out.size))
  clear hb3
  have cB0 := HB.out.c0
  have cB1 := HB.out.c1
  have cB2 := HB.out.c2
  have cP0 := HP.out.c0
  have cP1 := HP.out.c1
  have cP2 := HP.out.c2
  go_wp2_with fail
  refine (KA2.out _).mono ?_
  rintro e w4 ⟨rfl, hb4⟩
  have HP := Lib.hid (HP.out.callee hb4)
  have HA := Lib.hid (HA.out.callee hb4)
  have HB := Lib.hid (HB.out.callee hb4)
  have HH4 := Lib.hid (HH3.out.trans (hb4.mono HH3.out.size))
  clear hb4
  have cP0 := HP.out.c0
  have cP1 := HP.out.c1
  have cP2 := HP.out.c2
  go_wp2_with fail
  refine (KN2.out _).mono ?_
  rintro e w5 ⟨rfl, hb5⟩
  have HP := Lib.hid (HP.out.callee hb5)
  have HA := Lib.hid (HA.out.callee hb5)
  have HB := Lib.hid (HB.out.callee hb5)
  have HH5 := Lib.hid (HH4.out.trans (hb5.mono HH4.out.size))
  clear hb5
  have cP0 := HP.out.c0
  have cP1 := HP.out.c1
  have cP2 := HP.out.c2
  go_wp2_with fail
  refine (alive_any _).mono ?_
  rintro e w6 ⟨rfl, hb6⟩
  have HP := Lib.hid (HP.out.callee hb6)
  have HA := Lib.hid (HA.out.callee hb6)
  have HB := Lib.hid (HB.out.callee hb6)
  have HH6 := Lib.hid (HH5.out.trans (hb6.mono HH5.out.size))
  clear hb6
  go_wp2
  go_ret
  exact ⟨rfl, HH6.out⟩

set_option maxHeartbeats 8000000 in
set_option maxRecDepth 100000 in
theorem w00_ask_true (id c i : UInt8) (n s d : ByteArray) (w : World) (hn : n.size ≤ 4096) (hs : s.size ≤ 4096) (hd : d.size ≤ 4096) (hall : (n.size : Int) + (s.size : Int) + (d.size : Int) ≤ 4096) (h1 : joinE [n, s] ≠ 0) (h2 : joinE [s] ≠ 0) (h3 : asE c d = 0) :
    Calls Try.prog 4 #[.int .u8 id.toNat, .string n, .string s, .bool true, .agg #[.int .u8 c.toNat, .int .u8 i.toNat, .string d]] w fun e w' => e = .returned (.bool true) ∧ Below w.heap.size w w' := by
  have HH0 := Lib.hid (Below.refl w.heap.size w)
  have HP := Lib.hid (at_new w c i d : At (w.alloc (.cells #[.int .u8 c.toNat, .int .u8 i.toNat, .string d] 23)) w.heap.size c i d)
  have HH0 := Lib.hid (HH0.out.alloc HH0.out.size _ : Below w.heap.size w (w.alloc (.cells #[.int .u8 c.toNat, .int .u8 i.toNat, .string d] 23)))
  have KQ := Lib.hid (fun w => request_any id n s w (by unfold maxLen; omega) (by unfold maxLen; omega))
  have KS := Lib.hid (fun w => answer_any id true s w (by unfold maxLen; omega))
  rw [pkV_no h1] at KQ
  simp only [if_true, Bool.false_eq_true, if_false] at KS
  rw [pkV_no h2] at KS
  have KA2 := Lib.hid (fun w => asked_any c i d w (by unfold maxLen; omega))
  have KN2 := Lib.hid (fun w => answered_any c i d w (by unfold maxLen; omega))
  unfold asV at KA2
  unfold anV at KN2
  obtain ⟨hc, hj, hjs, hx, hy⟩ := as_zero h3
  have h4 : anE c d = 8 := by rw [hc]; rfl
  have h4' := an_non (c := c) (d := d) (by rw [h4]; decide)
  rw [h4, h4'.1, h4'.2] at KN2
  rw [h3] at KA2
  have KP := Lib.hid (fun w => request_any i (asT c d 0) (asT c d 1) w (by unfold maxLen; omega) (by unfold maxLen; omega))
  rw [pkV_ok hj, hjs] at KP
  generalize asT c d 0 = x at *
  generalize asT c d 1 = y at *
  clear hj hjs hx hy h3 h4 h4'
  subst hc
  have hq0 : ∀ W, (Op.equalIn 10000 23 (.agg #[.int .u8 (1 : UInt8).toNat, .int .u8 i.toNat, .string d]) (.agg #[.int .u8 (1 : UInt8).toNat, .int .u8 i.toNat, .string d])).run Try.prog W = .ok true W := pk_eq (c := (1 : UInt8)) (c' := (1 : UInt8)) (i := i) (i' := i) (s := d) (s' := d) (pk_same _ _ _)
  have hq1 : ∀ W, (binOp .eql 23 (.agg #[.int .u8 (1 : UInt8).toNat, .int .u8 i.toNat, .string d]) (.agg #[.int .u8 (1 : UInt8).toNat, .int .u8 i.toNat, .string d])).run Try.prog W = .ok (.bool true) W := pk_eql (c := (1 : UInt8)) (c' := (1 : UInt8)) (i := i) (i' := i) (s := d) (s' := d) (pk_same _ _ _)
  have hq2 : ∀ W, (binOp .neq 23 (.agg #[.int .u8 (1 : UInt8).toNat, .int .u8 i.toNat, .string d]) (.agg #[.int .u8 (1 : UInt8).toNat, .int .u8 i.toNat, .string d])).run Try.prog W = .ok (.bool false) W := pk_neq (c := (1 : UInt8)) (c' := (1 : UInt8)) (i := i) (i' := i) (s := d) (s' := d) (pk_same _ _ _)
  have g1 : ((bOf []).toList == ([] : List UInt8)) = true := by rw [toList_bOf]; rfl
  have g2 : (bOf []).toList.isEmpty = true := no_empty
  have g3 : ¬ 4096 < (n.size : Int) + (s.size : Int) + (d.size : Int) := by omega
  have g4 : ((n.size : Int) + (s.size : Int) + (d.size : Int)) < 9223372036854775808 := by omega
  clear h1 h2
  go_enter Try.func4, Try.ntmps4
  go_wp2_with fail
  refine (KQ.out _).mono ?_
  rintro e w1 ⟨rfl, hb1⟩
  have HP := Lib.hid (HP.out.callee hb1)
  have HH1 := Lib.hid (HH0.out.trans (hb1.mono HH0.out.size))
  clear hb1
  have HP := Lib.hid (HP.out.alloc _ : At (w1.alloc (.cells #[.int .u8 0, .int .u8 0, .string (bOf [])] 23)) w.heap.size (1 : UInt8) i d)
  have HA := Lib.hid (at_new w1 (0 : UInt8) (0 : UInt8) (bOf []) : At (w1.alloc (.cells #[.int .u8 0, .int .u8 0, .string (bOf [])] 23)) w1.heap.size (0 : UInt8) (0 : UInt8) (bOf []))
  have HH1 := Lib.hid (HH1.out.alloc HH1.out.size _ : Below w.heap.size w (w1.alloc (.cells #[.int .u8 0, .int .u8 0, .string (bOf [])] 23)))
  go_wp2_with fail
  refine (KS.out _).mono ?_
  rintro e w2 ⟨rfl, hb2⟩
  have HP := Lib.hid (HP.out.callee hb2)
  have HA := Lib.hid (HA.out.callee hb2)
  have HH2 := Lib.hid (HH1.out.trans (hb2.mono HH1.out.size))
  clear hb2
  have HP := Lib.hid (HP.out.alloc _ : At (w2.alloc (.cells #[.int .u8 0, .int .u8 0, .string (bOf [])] 23)) w.heap.size (1 : UInt8) i d)
  have HA := Lib.hid (HA.out.alloc _ : At (w2.alloc (.cells #[.int .u8 0, .int .u8 0, .string (bOf [])] 23)) w1.heap.size (0 : UInt8) (0 : UInt8) (bOf []))
  have HB := Lib.hid (at_new w2 (0 : UInt8) (0 : UInt8) (bOf []) : At (w2.alloc (.cells #[.int .u8 0, .int .u8 0, .string (bOf [])] 23)) w2.heap.size (0 : UInt8) (0 : UInt8) (bOf []))
  have HH2 := Lib.hid (HH2.out.alloc HH2.out.size _ : Below w.heap.size w (w2.alloc (.cells #[.int .u8 0, .int .u8 0, .string (bOf [])] 23)))
  have cP0 := HP.out.c0
  have cP1 := HP.out.c1
  have cP2 := HP.out.c2
  go_wp2_with fail
  refine (KA2.out _).mono ?_
  rintro e w3 ⟨rfl, hb3⟩
  have HP := Lib.hid (HP.out.callee hb3)
  have HA := Lib.hid (HA.out.callee hb3)
  have HB := Lib.hid (HB.out.callee hb3)
  have HH3 := Lib.hid (HH2.out.trans (hb3.mono HH2.out.size))
  clear hb3
  have cP0 := HP.out.c0
  have cP1 := HP.out.c1
  have cP2 := HP.out.c2
  go_wp2_with fail
  refine (KP.out _).mono ?_
  rintro e w4 ⟨rfl, hb4⟩
  have HP := Lib.hid (HP.out.callee hb4)
  have HA := Lib.hid (HA.out.callee hb4)
  have HB := Lib.hid (HB.out.callee hb4)
  have HH4 := Lib.hid (HH3.out.trans (hb4.mono HH3.out.size))
  clear hb4
  have HP := Lib.hid (HP.out.alloc _ : At (w4.alloc (.cells #[.int .u8 1, .int .u8 i.toNat, .string d] 23)) w.heap.size (1 : UInt8) i d)
  have HA := Lib.hid (HA.out.alloc _ : At (w4.alloc (.cells #[.int .u8 1, .int .u8 i.toNat, .string d] 23)) w1.heap.size (0 : UInt8) (0 : UInt8) (bOf []))
  have HB := Lib.hid (HB.out.alloc _ : At (w4.alloc (.cells #[.int .u8 1, .int .u8 i.toNat, .string d] 23)) w2.heap.size (0 : UInt8) (0 : UInt8) (bOf []))
  have HC := Lib.hid (at_new w4 (1 : UInt8) i d : At (w4.alloc (.cells #[.int .u8 1, .int .u8 i.toNat, .string d] 23)) w4.heap.size (1 : UInt8) i d)
  have HH4 := Lib.hid (HH4.out.alloc HH4.out.size _ : Below w.heap.size w (w4.alloc (.cells #[.int .u8 1, .int .u8 i.toNat, .string d] 23)))
  have cP0 := HP.out.c0
  have cP1 := HP.out.c1
  have cP2 := HP.out.c2
  have cC0 := HC.out.c0
  have cC1 := HC.out.c1
  have cC2 := HC.out.c2
  go_wp2_with fail
  refine (KN2.out _).mono ?_
  rintro e w5 ⟨rfl, hb5⟩
  have HP := Lib.hid (HP.out.callee hb5)
  have HA := Lib.hid (HA.out.callee hb5)
  have HB := Lib.hid (HB.out.callee hb5)
  have HC := Lib.hid (HC.out.callee hb5)
  have HH5 := Lib.hid (HH4.out.trans (hb5.mono HH4.out.size))
  clear hb5
  have cP0 := HP.out.c0
  have cP1 := HP.out.c1
  have cP2 := HP.out.c2
  go_wp2_with fail
  refine (alive_any _).mono ?_
  rintro e w6 ⟨rfl, hb6⟩
  have HP := Lib.hid (HP.out.callee hb6)
  have HA := Lib.hid (HA.out.callee hb6)
  have HB := Lib.hid (HB.out.callee hb6)
  have HC := Lib.hid (HC.out.callee hb6)
  have HH6 := Lib.hid (HH5.out.trans (hb6.mono HH5.out.size))
  clear hb6
  go_wp2
  go_ret
  exact ⟨rfl, HH6.out⟩

set_option maxHeartbeats 8000000 in
set_option maxRecDepth 100000 in
theorem w00_ask_false (id c i : UInt8) (n s d : ByteArray) (w : World) (hn : n.size ≤ 4096) (hs : s.size ≤ 4096) (hd : d.size ≤ 4096) (hall : (n.size : Int) + (s.size : Int) + (d.size : Int) ≤ 4096) (h1 : joinE [n, s] ≠ 0) (h2 : joinE [s] ≠ 0) (h3 : asE c d = 0) :
    Calls Try.prog 4 #[.int .u8 id.toNat, .string n, .string s, .bool false, .agg #[.int .u8 c.toNat, .int .u8 i.toNat, .string d]] w fun e w' => e = .returned (.bool true) ∧ Below w.heap.size w w' := by
  have HH0 := Lib.hid (Below.refl w.heap.size w)
  have HP := Lib.hid (at_new w c i d : At (w.alloc (.cells #[.int .u8 c.toNat, .int .u8 i.toNat, .string d] 23)) w.heap.size c i d)
  have HH0 := Lib.hid (HH0.out.alloc HH0.out.size _ : Below w.heap.size w (w.alloc (.cells #[.int .u8 c.toNat, .int .u8 i.toNat, .string d] 23)))
  have KQ := Lib.hid (fun w => request_any id n s w (by unfold maxLen; omega) (by unfold maxLen; omega))
  have KS := Lib.hid (fun w => answer_any id false s w (by unfold maxLen; omega))
  rw [pkV_no h1] at KQ
  simp only [if_true, Bool.false_eq_true, if_false] at KS
  rw [pkV_no h2] at KS
  have KA2 := Lib.hid (fun w => asked_any c i d w (by unfold maxLen; omega))
  have KN2 := Lib.hid (fun w => answered_any c i d w (by unfold maxLen; omega))
  unfold asV at KA2
  unfold anV at KN2
  obtain ⟨hc, hj, hjs, hx, hy⟩ := as_zero h3
  have h4 : anE c d = 8 := by rw [hc]; rfl
  have h4' := an_non (c := c) (d := d) (by rw [h4]; decide)
  rw [h4, h4'.1, h4'.2] at KN2
  rw [h3] at KA2
  have KP := Lib.hid (fun w => request_any i (asT c d 0) (asT c d 1) w (by unfold maxLen; omega) (by unfold maxLen; omega))
  rw [pkV_ok hj, hjs] at KP
  generalize asT c d 0 = x at *
  generalize asT c d 1 = y at *
  clear hj hjs hx hy h3 h4 h4'
  subst hc
  have hq0 : ∀ W, (Op.equalIn 10000 23 (.agg #[.int .u8 (1 : UInt8).toNat, .int .u8 i.toNat, .string d]) (.agg #[.int .u8 (1 : UInt8).toNat, .int .u8 i.toNat, .string d])).run Try.prog W = .ok true W := pk_eq (c := (1 : UInt8)) (c' := (1 : UInt8)) (i := i) (i' := i) (s := d) (s' := d) (pk_same _ _ _)
  have hq1 : ∀ W, (binOp .eql 23 (.agg #[.int .u8 (1 : UInt8).toNat, .int .u8 i.toNat, .string d]) (.agg #[.int .u8 (1 : UInt8).toNat, .int .u8 i.toNat, .string d])).run Try.prog W = .ok (.bool true) W := pk_eql (c := (1 : UInt8)) (c' := (1 : UInt8)) (i := i) (i' := i) (s := d) (s' := d) (pk_same _ _ _)
  have hq2 : ∀ W, (binOp .neq 23 (.agg #[.int .u8 (1 : UInt8).toNat, .int .u8 i.toNat, .string d]) (.agg #[.int .u8 (1 : UInt8).toNat, .int .u8 i.toNat, .string d])).run Try.prog W = .ok (.bool false) W := pk_neq (c := (1 : UInt8)) (c' := (1 : UInt8)) (i := i) (i' := i) (s := d) (s' := d) (pk_same _ _ _)
  have g1 : ((bOf []).toList == ([] : List UInt8)) = true := by rw [toList_bOf]; rfl
  have g2 : (bOf []).toList.isEmpty = true := no_empty
  have g3 : ¬ 4096 < (n.size : Int) + (s.size : Int) + (d.size : Int) := by omega
  have g4 : ((n.size : Int) + (s.size : Int) + (d.size : Int)) < 9223372036854775808 := by omega
  clear h1 h2
  go_enter Try.func4, Try.ntmps4
  go_wp2_with fail
  refine (KQ.out _).mono ?_
  rintro e w1 ⟨rfl, hb1⟩
  have HP := Lib.hid (HP.out.callee hb1)
  have HH1 := Lib.hid (HH0.out.trans (hb1.mono HH0.out.size))
  clear hb1
  have HP := Lib.hid (HP.out.alloc _ : At (w1.alloc (.cells #[.int .u8 0, .int .u8 0, .string (bOf [])] 23)) w.heap.size (1 : UInt8) i d)
  have HA := Lib.hid (at_new w1 (0 : UInt8) (0 : UInt8) (bOf []) : At (w1.alloc (.cells #[.int .u8 0, .int .u8 0, .string (bOf [])] 23)) w1.heap.size (0 : UInt8) (0 : UInt8) (bOf []))
  have HH1 := Lib.hid (HH1.out.alloc HH1.out.size _ : Below w.heap.size w (w1.alloc (.cells #[.int .u8 0, .int .u8 0, .string (bOf [])] 23)))
  go_wp2_with fail
  refine (KS.out _).mono ?_
  rintro e w2 ⟨rfl, hb2⟩
  have HP := Lib.hid (HP.out.callee hb2)
  have HA := Lib.hid (HA.out.callee hb2)
  have HH2 := Lib.hid (HH1.out.trans (hb2.mono HH1.out.size))
  clear hb2
  have HP := Lib.hid (HP.out.alloc _ : At (w2.alloc (.cells #[.int .u8 0, .int .u8 0, .string (bOf [])] 23)) w.heap.size (1 : UInt8) i d)
  have HA := Lib.hid (HA.out.alloc _ : At (w2.alloc (.cells #[.int .u8 0, .int .u8 0, .string (bOf [])] 23)) w1.heap.size (0 : UInt8) (0 : UInt8) (bOf []))
  have HB := Lib.hid (at_new w2 (0 : UInt8) (0 : UInt8) (bOf []) : At (w2.alloc (.cells #[.int .u8 0, .int .u8 0, .string (bOf [])] 23)) w2.heap.size (0 : UInt8) (0 : UInt8) (bOf []))
  have HH2 := Lib.hid (HH2.out.alloc HH2.out.size _ : Below w.heap.size w (w2.alloc (.cells #[.int .u8 0, .int .u8 0, .string (bOf [])] 23)))
  have cP0 := HP.out.c0
  have cP1 := HP.out.c1
  have cP2 := HP.out.c2
  go_wp2_with fail
  refine (KA2.out _).mono ?_
  rintro e w3 ⟨rfl, hb3⟩
  have HP := Lib.hid (HP.out.callee hb3)
  have HA := Lib.hid (HA.out.callee hb3)
  have HB := Lib.hid (HB.out.callee hb3)
  have HH3 := Lib.hid (HH2.out.trans (hb3.mono HH2.out.size))
  clear hb3
  have cP0 := HP.out.c0
  have cP1 := HP.out.c1
  have cP2 := HP.out.c2
  go_wp2_with fail
  refine (KP.out _).mono ?_
  rintro e w4 ⟨rfl, hb4⟩
  have HP := Lib.hid (HP.out.callee hb4)
  have HA := Lib.hid (HA.out.callee hb4)
  have HB := Lib.hid (HB.out.callee hb4)
  have HH4 := Lib.hid (HH3.out.trans (hb4.mono HH3.out.size))
  clear hb4
  have HP := Lib.hid (HP.out.alloc _ : At (w4.alloc (.cells #[.int .u8 1, .int .u8 i.toNat, .string d] 23)) w.heap.size (1 : UInt8) i d)
  have HA := Lib.hid (HA.out.alloc _ : At (w4.alloc (.cells #[.int .u8 1, .int .u8 i.toNat, .string d] 23)) w1.heap.size (0 : UInt8) (0 : UInt8) (bOf []))
  have HB := Lib.hid (HB.out.alloc _ : At (w4.alloc (.cells #[.int .u8 1, .int .u8 i.toNat, .string d] 23)) w2.heap.size (0 : UInt8) (0 : UInt8) (bOf []))
  have HC := Lib.hid (at_new w4 (1 : UInt8) i d : At (w4.alloc (.cells #[.int .u8 1, .int .u8 i.toNat, .string d] 23)) w4.heap.size (1 : UInt8) i d)
  have HH4 := Lib.hid (HH4.out.alloc HH4.out.size _ : Below w.heap.size w (w4.alloc (.cells #[.int .u8 1, .int .u8 i.toNat, .string d] 23)))
  have cP0 := HP.out.c0
  have cP1 := HP.out.c1
  have cP2 := HP.out.c2
  have cC0 := HC.out.c0
  have cC1 := HC.out.c1
  have cC2 := HC.out.c2
  go_wp2_with fail
  refine (KN2.out _).mono ?_
  rintro e w5 ⟨rfl, hb5⟩
  have HP := Lib.hid (HP.out.callee hb5)
  have HA := Lib.hid (HA.out.callee hb5)
  have HB := Lib.hid (HB.out.callee hb5)
  have HC := Lib.hid (HC.out.callee hb5)
  have HH5 := Lib.hid (HH4.out.trans (hb5.mono HH4.out.size))
  clear hb5
  have cP0 := HP.out.c0
  have cP1 := HP.out.c1
  have cP2 := HP.out.c2
  go_wp2_with fail
  refine (alive_any _).mono ?_
  rintro e w6 ⟨rfl, hb6⟩
  have HP := Lib.hid (HP.out.callee hb6)
  have HA := Lib.hid (HA.out.callee hb6)
  have HB := Lib.hid (HB.out.callee hb6)
  have HC := Lib.hid (HC.out.callee hb6)
  have HH6 := Lib.hid (HH5.out.trans (hb6.mono HH5.out.size))
  clear hb6
  go_wp2
  go_ret
  exact ⟨rfl, HH6.out⟩

set_option maxHeartbeats 8000000 in
set_option maxRecDepth 100000 in
theorem w00_ans_true (id c i : UInt8) (n s d : ByteArray) (w : World) (hn : n.size ≤ 4096) (hs : s.size ≤ 4096) (hd : d.size ≤ 4096) (hall : (n.size : Int) + (s.size : Int) + (d.size : Int) ≤ 4096) (h1 : joinE [n, s] ≠ 0) (h2 : joinE [s] ≠ 0) (h4 : anE c d = 0) :
    Calls Try.prog 4 #[.int .u8 id.toNat, .string n, .string s, .bool true, .agg #[.int .u8 c.toNat, .int .u8 i.toNat, .string d]] w fun e w' => e = .returned (.bool true) ∧ Below w.heap.size w w' := by
  have HH0 := Lib.hid (Below.refl w.heap.size w)
  have HP := Lib.hid (at_new w c i d : At (w.alloc (.cells #[.int .u8 c.toNat, .int .u8 i.toNat, .string d] 23)) w.heap.size c i d)
  have HH0 := Lib.hid (HH0.out.alloc HH0.out.size _ : Below w.heap.size w (w.alloc (.cells #[.int .u8 c.toNat, .int .u8 i.toNat, .string d] 23)))
  have KQ := Lib.hid (fun w => request_any id n s w (by unfold maxLen; omega) (by unfold maxLen; omega))
  have KS := Lib.hid (fun w => answer_any id true s w (by unfold maxLen; omega))
  rw [pkV_no h1] at KQ
  simp only [if_true, Bool.false_eq_true, if_false] at KS
  rw [pkV_no h2] at KS
  have KA2 := Lib.hid (fun w => asked_any c i d w (by unfold maxLen; omega))
  have KN2 := Lib.hid (fun w => answered_any c i d w (by unfold maxLen; omega))
  unfold asV at KA2
  unfold anV at KN2
  obtain ⟨hc, hw, hcc, hj, hjs, hm⟩ := an_zero h4
  have h3 : asE c d = 8 := by rcases hc with rfl | rfl <;> rfl
  have h3' := as_non (c := c) (d := d) (by rw [h3]; decide)
  rw [h3, h3'.1, h3'.2] at KA2
  rw [h4] at KN2
  have KP := Lib.hid (fun w => answer_any i (anW c d) (anT c d) w (by unfold maxLen; omega))
  rw [pkV_ok hj, hjs, hcc] at KP
  generalize anT c d = x at *
  generalize anW c d = vw at *
  clear hj hjs hm h3 h4 h3' hw hcc hc
  have hq0 : ∀ W, (Op.equalIn 10000 23 (.agg #[.int .u8 c.toNat, .int .u8 i.toNat, .string d]) (.agg #[.int .u8 c.toNat, .int .u8 i.toNat, .string d])).run Try.prog W = .ok true W := pk_eq (c := c) (c' := c) (i := i) (i' := i) (s := d) (s' := d) (pk_same _ _ _)
  have hq1 : ∀ W, (binOp .eql 23 (.agg #[.int .u8 c.toNat, .int .u8 i.toNat, .string d]) (.agg #[.int .u8 c.toNat, .int .u8 i.toNat, .string d])).run Try.prog W = .ok (.bool true) W := pk_eql (c := c) (c' := c) (i := i) (i' := i) (s := d) (s' := d) (pk_same _ _ _)
  have hq2 : ∀ W, (binOp .neq 23 (.agg #[.int .u8 c.toNat, .int .u8 i.toNat, .string d]) (.agg #[.int .u8 c.toNat, .int .u8 i.toNat, .string d])).run Try.prog W = .ok (.bool false) W := pk_neq (c := c) (c' := c) (i := i) (i' := i) (s := d) (s' := d) (pk_same _ _ _)
  have g1 : ((bOf []).toList == ([] : List UInt8)) = true := by rw [toList_bOf]; rfl
  have g2 : (bOf []).toList.isEmpty = true := no_empty
  have g3 : ¬ 4096 < (n.size : Int) + (s.size : Int) + (d.size : Int) := by omega
  have g4 : ((n.size : Int) + (s.size : Int) + (d.size : Int)) < 9223372036854775808 := by omega
  clear h1 h2
  go_enter Try.func4, Try.ntmps4
  go_wp2_with fail
  refine (KQ.out _).mono ?_
  rintro e w1 ⟨rfl, hb1⟩
  have HP := Lib.hid (HP.out.callee hb1)
  have HH1 := Lib.hid (HH0.out.trans (hb1.mono HH0.out.size))
  clear hb1
  have HP := Lib.hid (HP.out.alloc _ : At (w1.alloc (.cells #[.int .u8 0, .int .u8 0, .string (bOf [])] 23)) w.heap.size c i d)
  have HA := Lib.hid (at_new w1 (0 : UInt8) (0 : UInt8) (bOf []) : At (w1.alloc (.cells #[.int .u8 0, .int .u8 0, .string (bOf [])] 23)) w1.heap.size (0 : UInt8) (0 : UInt8) (bOf []))
  have HH1 := Lib.hid (HH1.out.alloc HH1.out.size _ : Below w.heap.size w (w1.alloc (.cells #[.int .u8 0, .int .u8 0, .string (bOf [])] 23)))
  go_wp2_with fail
  refine (KS.out _).mono ?_
  rintro e w2 ⟨rfl, hb2⟩
  have HP := Lib.hid (HP.out.callee hb2)
  have HA := Lib.hid (HA.out.callee hb2)
  have HH2 := Lib.hid (HH1.out.trans (hb2.mono HH1.out.size))
  clear hb2
  have HP := Lib.hid (HP.out.alloc _ : At (w2.alloc (.cells #[.int .u8 0, .int .u8 0, .string (bOf [])] 23)) w.heap.size c i d)
  have HA := Lib.hid (HA.out.alloc _ : At (w2.alloc (.cells #[.int .u8 0, .int .u8 0, .string (bOf [])] 23)) w1.heap.size (0 : UInt8) (0 : UInt8) (bOf []))
  have HB := Lib.hid (at_new w2 (0 : UInt8) (0 : UInt8) (bOf []) : At (w2.alloc (.cells #[.int .u8 0, .int .u8 0, .string (bOf [])] 23)) w2.heap.size (0 : UInt8) (0 : UInt8) (bOf []))
  have HH2 := Lib.hid (HH2.out.alloc HH2.out.size _ : Below w.heap.size w (w2.alloc (.cells #[.int .u8 0, .int .u8 0, .string (bOf [])] 23)))
  have cP0 := HP.out.c0
  have cP1 := HP.out.c1
  have cP2 := HP.out.c2
  go_wp2_with fail
  refine (KA2.out _).mono ?_
  rintro e w3 ⟨rfl, hb3⟩
  have HP := Lib.hid (HP.out.callee hb3)
  have HA := Lib.hid (HA.out.callee hb3)
  have HB := Lib.hid (HB.out.callee hb3)
  have HH3 := Lib.hid (HH2.out.trans (hb3.mono HH2.out.size))
  clear hb3
  have cP0 := HP.out.c0
  have cP1 := HP.out.c1
  have cP2 := HP.out.c2
  go_wp2_with fail
  refine (KN2.out _).mono ?_
  rintro e w4 ⟨rfl, hb4⟩
  have HP := Lib.hid (HP.out.callee hb4)
  have HA := Lib.hid (HA.out.callee hb4)
  have HB := Lib.hid (HB.out.callee hb4)
  have HH4 := Lib.hid (HH3.out.trans (hb4.mono HH3.out.size))
  clear hb4
  have cP0 := HP.out.c0
  have cP1 := HP.out.c1
  have cP2 := HP.out.c2
  go_wp2_with fail
  refine (KP.out _).mono ?_
  rintro e w5 ⟨rfl, hb5⟩
  have HP := Lib.hid (HP.out.callee hb5)
  have HA := Lib.hid (HA.out.callee hb5)
  have HB := Lib.hid (HB.out.callee hb5)
  have HH5 := Lib.hid (HH4.out.trans (hb5.mono HH4.out.size))
  clear hb5
  have HP := Lib.hid (HP.out.alloc _ : At (w5.alloc (.cells #[.int .u8 c.toNat, .int .u8 i.toNat, .string d] 23)) w.heap.size c i d)
  have HA := Lib.hid (HA.out.alloc _ : At (w5.alloc (.cells #[.int .u8 c.toNat, .int .u8 i.toNat, .string d] 23)) w1.heap.size (0 : UInt8) (0 : UInt8) (bOf []))
  have HB := Lib.hid (HB.out.alloc _ : At (w5.alloc (.cells #[.int .u8 c.toNat, .int .u8 i.toNat, .string d] 23)) w2.heap.size (0 : UInt8) (0 : UInt8) (bOf []))
  have HC := Lib.hid (at_new w5 c i d : At (w5.alloc (.cells #[.int .u8 c.toNat, .int .u8 i.toNat, .string d] 23)) w5.heap.size c i d)
  have HH5 := Lib.hid (HH5.out.alloc HH5.out.size _ : Below w.heap.size w (w5.alloc (.cells #[.int .u8 c.toNat, .int .u8 i.toNat, .string d] 23)))
  have cP0 := HP.out.c0
  have cP1 := HP.out.c1
  have cP2 := HP.out.c2
  have cC0 := HC.out.c0
  have cC1 := HC.out.c1
  have cC2 := HC.out.c2
  go_wp2_with fail
  refine (alive_any _).mono ?_
  rintro e w6 ⟨rfl, hb6⟩
  have HP := Lib.hid (HP.out.callee hb6)
  have HA := Lib.hid (HA.out.callee hb6)
  have HB := Lib.hid (HB.out.callee hb6)
  have HC := Lib.hid (HC.out.callee hb6)
  have HH6 := Lib.hid (HH5.out.trans (hb6.mono HH5.out.size))
  clear hb6
  go_wp2
  go_ret
  exact ⟨rfl, HH6.out⟩

set_option maxHeartbeats 8000000 in
set_option maxRecDepth 100000 in
theorem w00_ans_false (id c i : UInt8) (n s d : ByteArray) (w : World) (hn : n.size ≤ 4096) (hs : s.size ≤ 4096) (hd : d.size ≤ 4096) (hall : (n.size : Int) + (s.size : Int) + (d.size : Int) ≤ 4096) (h1 : joinE [n, s] ≠ 0) (h2 : joinE [s] ≠ 0) (h4 : anE c d = 0) :
    Calls Try.prog 4 #[.int .u8 id.toNat, .string n, .string s, .bool false, .agg #[.int .u8 c.toNat, .int .u8 i.toNat, .string d]] w fun e w' => e = .returned (.bool true) ∧ Below w.heap.size w w' := by
  have HH0 := Lib.hid (Below.refl w.heap.size w)
  have HP := Lib.hid (at_new w c i d : At (w.alloc (.cells #[.int .u8 c.toNat, .int .u8 i.toNat, .string d] 23)) w.heap.size c i d)
  have HH0 := Lib.hid (HH0.out.alloc HH0.out.size _ : Below w.heap.size w (w.alloc (.cells #[.int .u8 c.toNat, .int .u8 i.toNat, .string d] 23)))
  have KQ := Lib.hid (fun w => request_any id n s w (by unfold maxLen; omega) (by unfold maxLen; omega))
  have KS := Lib.hid (fun w => answer_any id false s w (by unfold maxLen; omega))
  rw [pkV_no h1] at KQ
  simp only [if_true, Bool.false_eq_true, if_false] at KS
  rw [pkV_no h2] at KS
  have KA2 := Lib.hid (fun w => asked_any c i d w (by unfold maxLen; omega))
  have KN2 := Lib.hid (fun w => answered_any c i d w (by unfold maxLen; omega))
  unfold asV at KA2
  unfold anV at KN2
  obtain ⟨hc, hw, hcc, hj, hjs, hm⟩ := an_zero h4
  have h3 : asE c d = 8 := by rcases hc with rfl | rfl <;> rfl
  have h3' := as_non (c := c) (d := d) (by rw [h3]; decide)
  rw [h3, h3'.1, h3'.2] at KA2
  rw [h4] at KN2
  have KP := Lib.hid (fun w => answer_any i (anW c d) (anT c d) w (by unfold maxLen; omega))
  rw [pkV_ok hj, hjs, hcc] at KP
  generalize anT c d = x at *
  generalize anW c d = vw at *
  clear hj hjs hm h3 h4 h3' hw hcc hc
  have hq0 : ∀ W, (Op.equalIn 10000 23 (.agg #[.int .u8 c.toNat, .int .u8 i.toNat, .string d]) (.agg #[.int .u8 c.toNat, .int .u8 i.toNat, .string d])).run Try.prog W = .ok true W := pk_eq (c := c) (c' := c) (i := i) (i' := i) (s := d) (s' := d) (pk_same _ _ _)
  have hq1 : ∀ W, (binOp .eql 23 (.agg #[.int .u8 c.toNat, .int .u8 i.toNat, .string d]) (.agg #[.int .u8 c.toNat, .int .u8 i.toNat, .string d])).run Try.prog W = .ok (.bool true) W := pk_eql (c := c) (c' := c) (i := i) (i' := i) (s := d) (s' := d) (pk_same _ _ _)
  have hq2 : ∀ W, (binOp .neq 23 (.agg #[.int .u8 c.toNat, .int .u8 i.toNat, .string d]) (.agg #[.int .u8 c.toNat, .int .u8 i.toNat, .string d])).run Try.prog W = .ok (.bool false) W := pk_neq (c := c) (c' := c) (i := i) (i' := i) (s := d) (s' := d) (pk_same _ _ _)
  have g1 : ((bOf []).toList == ([] : List UInt8)) = true := by rw [toList_bOf]; rfl
  have g2 : (bOf []).toList.isEmpty = true := no_empty
  have g3 : ¬ 4096 < (n.size : Int) + (s.size : Int) + (d.size : Int) := by omega
  have g4 : ((n.size : Int) + (s.size : Int) + (d.size : Int)) < 9223372036854775808 := by omega
  clear h1 h2
  go_enter Try.func4, Try.ntmps4
  go_wp2_with fail
  refine (KQ.out _).mono ?_
  rintro e w1 ⟨rfl, hb1⟩
  have HP := Lib.hid (HP.out.callee hb1)
  have HH1 := Lib.hid (HH0.out.trans (hb1.mono HH0.out.size))
  clear hb1
  have HP := Lib.hid (HP.out.alloc _ : At (w1.alloc (.cells #[.int .u8 0, .int .u8 0, .string (bOf [])] 23)) w.heap.size c i d)
  have HA := Lib.hid (at_new w1 (0 : UInt8) (0 : UInt8) (bOf []) : At (w1.alloc (.cells #[.int .u8 0, .int .u8 0, .string (bOf [])] 23)) w1.heap.size (0 : UInt8) (0 : UInt8) (bOf []))
  have HH1 := Lib.hid (HH1.out.alloc HH1.out.size _ : Below w.heap.size w (w1.alloc (.cells #[.int .u8 0, .int .u8 0, .string (bOf [])] 23)))
  go_wp2_with fail
  refine (KS.out _).mono ?_
  rintro e w2 ⟨rfl, hb2⟩
  have HP := Lib.hid (HP.out.callee hb2)
  have HA := Lib.hid (HA.out.callee hb2)
  have HH2 := Lib.hid (HH1.out.trans (hb2.mono HH1.out.size))
  clear hb2
  have HP := Lib.hid (HP.out.alloc _ : At (w2.alloc (.cells #[.int .u8 0, .int .u8 0, .string (bOf [])] 23)) w.heap.size c i d)
  have HA := Lib.hid (HA.out.alloc _ : At (w2.alloc (.cells #[.int .u8 0, .int .u8 0, .string (bOf [])] 23)) w1.heap.size (0 : UInt8) (0 : UInt8) (bOf []))
  have HB := Lib.hid (at_new w2 (0 : UInt8) (0 : UInt8) (bOf []) : At (w2.alloc (.cells #[.int .u8 0, .int .u8 0, .string (bOf [])] 23)) w2.heap.size (0 : UInt8) (0 : UInt8) (bOf []))
  have HH2 := Lib.hid (HH2.out.alloc HH2.out.size _ : Below w.heap.size w (w2.alloc (.cells #[.int .u8 0, .int .u8 0, .string (bOf [])] 23)))
  have cP0 := HP.out.c0
  have cP1 := HP.out.c1
  have cP2 := HP.out.c2
  go_wp2_with fail
  refine (KA2.out _).mono ?_
  rintro e w3 ⟨rfl, hb3⟩
  have HP := Lib.hid (HP.out.callee hb3)
  have HA := Lib.hid (HA.out.callee hb3)
  have HB := Lib.hid (HB.out.callee hb3)
  have HH3 := Lib.hid (HH2.out.trans (hb3.mono HH2.out.size))
  clear hb3
  have cP0 := HP.out.c0
  have cP1 := HP.out.c1
  have cP2 := HP.out.c2
  go_wp2_with fail
  refine (KN2.out _).mono ?_
  rintro e w4 ⟨rfl, hb4⟩
  have HP := Lib.hid (HP.out.callee hb4)
  have HA := Lib.hid (HA.out.callee hb4)
  have HB := Lib.hid (HB.out.callee hb4)
  have HH4 := Lib.hid (HH3.out.trans (hb4.mono HH3.out.size))
  clear hb4
  have cP0 := HP.out.c0
  have cP1 := HP.out.c1
  have cP2 := HP.out.c2
  go_wp2_with fail
  refine (KP.out _).mono ?_
  rintro e w5 ⟨rfl, hb5⟩
  have HP := Lib.hid (HP.out.callee hb5)
  have HA := Lib.hid (HA.out.callee hb5)
  have HB := Lib.hid (HB.out.callee hb5)
  have HH5 := Lib.hid (HH4.out.trans (hb5.mono HH4.out.size))
  clear hb5
  have HP := Lib.hid (HP.out.alloc _ : At (w5.alloc (.cells #[.int .u8 c.toNat, .int .u8 i.toNat, .string d] 23)) w.heap.size c i d)
  have HA := Lib.hid (HA.out.alloc _ : At (w5.alloc (.cells #[.int .u8 c.toNat, .int .u8 i.toNat, .string d] 23)) w1.heap.size (0 : UInt8) (0 : UInt8) (bOf []))
  have HB := Lib.hid (HB.out.alloc _ : At (w5.alloc (.cells #[.int .u8 c.toNat, .int .u8 i.toNat, .string d] 23)) w2.heap.size (0 : UInt8) (0 : UInt8) (bOf []))
  have HC := Lib.hid (at_new w5 c i d : At (w5.alloc (.cells #[.int .u8 c.toNat, .int .u8 i.toNat, .string d] 23)) w5.heap.size c i d)
  have HH5 := Lib.hid (HH5.out.alloc HH5.out.size _ : Below w.heap.size w (w5.alloc (.cells #[.int .u8 c.toNat, .int .u8 i.toNat, .string d] 23)))
  have cP0 := HP.out.c0
  have cP1 := HP.out.c1
  have cP2 := HP.out.c2
  have cC0 := HC.out.c0
  have cC1 := HC.out.c1
  have cC2 := HC.out.c2
  go_wp2_with fail
  refine (alive_any _).mono ?_
  rintro e w6 ⟨rfl, hb6⟩
  have HP := Lib.hid (HP.out.callee hb6)
  have HA := Lib.hid (HA.out.callee hb6)
  have HB := Lib.hid (HB.out.callee hb6)
  have HC := Lib.hid (HC.out.callee hb6)
  have HH6 := Lib.hid (HH5.out.trans (hb6.mono HH5.out.size))
  clear hb6
  go_wp2
  go_ret
  exact ⟨rfl, HH6.out⟩

set_option maxHeartbeats 8000000 in
set_option maxRecDepth 100000 in
theorem w00_none_true (id c i : UInt8) (n s d : ByteArray) (w : World) (hn : n.size ≤ 4096) (hs : s.size ≤ 4096) (hd : d.size ≤ 4096) (hall : (n.size : Int) + (s.size : Int) + (d.size : Int) ≤ 4096) (h1 : joinE [n, s] ≠ 0) (h2 : joinE [s] ≠ 0) (h3 : asE c d ≠ 0) (h4 : anE c d ≠ 0) :
    Calls Try.prog 4 #[.int .u8 id.toNat, .string n, .string s, .bool true, .agg #[.int .u8 c.toNat, .int .u8 i.toNat, .string d]] w fun e w' => e = .returned (.bool true) ∧ Below w.heap.size w w' := by
  have HH0 := Lib.hid (Below.refl w.heap.size w)
  have HP := Lib.hid (at_new w c i d : At (w.alloc (.cells #[.int .u8 c.toNat, .int .u8 i.toNat, .string d] 23)) w.heap.size c i d)
  have HH0 := Lib.hid (HH0.out.alloc HH0.out.size _ : Below w.heap.size w (w.alloc (.cells #[.int .u8 c.toNat, .int .u8 i.toNat, .string d] 23)))
  have KQ := Lib.hid (fun w => request_any id n s w (by unfold maxLen; omega) (by unfold maxLen; omega))
  have KS := Lib.hid (fun w => answer_any id true s w (by unfold maxLen; omega))
  rw [pkV_no h1] at KQ
  simp only [if_true, Bool.false_eq_true, if_false] at KS
  rw [pkV_no h2] at KS
  have KA2 := Lib.hid (fun w => asked_any c i d w (by unfold maxLen; omega))
  have KN2 := Lib.hid (fun w => answered_any c i d w (by unfold maxLen; omega))
  unfold asV at KA2
  unfold anV at KN2
  have h3' := as_non h3
  have h4' := an_non h4
  rw [h3'.1, h3'.2] at KA2
  rw [h4'.1, h4'.2] at KN2
  have k3 : (asE c d == 0) = false := by rw [beq_eq_false_iff_ne]; exact h3
  have k4 : (anE c d == 0) = false := by rw [beq_eq_false_iff_ne]; exact h4
  generalize asE c d = E3 at *
  generalize anE c d = E4 at *
  clear h3 h4 h3' h4'
  have g1 : ((bOf []).toList == ([] : List UInt8)) = true := by rw [toList_bOf]; rfl
  have g2 : (bOf []).toList.isEmpty = true := no_empty
  have g3 : ¬ 4096 < (n.size : Int) + (s.size : Int) + (d.size : Int) := by omega
  have g4 : ((n.size : Int) + (s.size : Int) + (d.size : Int)) < 9223372036854775808 := by omega
  clear h1 h2
  go_enter Try.func4, Try.ntmps4
  go_wp2_with fail
  refine (KQ.out _).mono ?_
  rintro e w1 ⟨rfl, hb1⟩
  have HP := Lib.hid (HP.out.callee hb1)
  have HH1 := Lib.hid (HH0.out.trans (hb1.mono HH0.out.size))
  clear hb1
  have HP := Lib.hid (HP.out.alloc _ : At (w1.alloc (.cells #[.int .u8 0, .int .u8 0, .string (bOf [])] 23)) w.heap.size c i d)
  have HA := Lib.hid (at_new w1 (0 : UInt8) (0 : UInt8) (bOf []) : At (w1.alloc (.cells #[.int .u8 0, .int .u8 0, .string (bOf [])] 23)) w1.heap.size (0 : UInt8) (0 : UInt8) (bOf []))
  have HH1 := Lib.hid (HH1.out.alloc HH1.out.size _ : Below w.heap.size w (w1.alloc (.cells #[.int .u8 0, .int .u8 0, .string (bOf [])] 23)))
  go_wp2_with fail
  refine (KS.out _).mono ?_
  rintro e w2 ⟨rfl, hb2⟩
  have HP := Lib.hid (HP.out.callee hb2)
  have HA := Lib.hid (HA.out.callee hb2)
  have HH2 := Lib.hid (HH1.out.trans (hb2.mono HH1.out.size))
  clear hb2
  have HP := Lib.hid (HP.out.alloc _ : At (w2.alloc (.cells #[.int .u8 0, .int .u8 0, .string (bOf [])] 23)) w.heap.size c i d)
  have HA := Lib.hid (HA.out.alloc _ : At (w2.alloc (.cells #[.int .u8 0, .int .u8 0, .string (bOf [])] 23)) w1.heap.size (0 : UInt8) (0 : UInt8) (bOf []))
  have HB := Lib.hid (at_new w2 (0 : UInt8) (0 : UInt8) (bOf []) : At (w2.alloc (.cells #[.int .u8 0, .int .u8 0, .string (bOf [])] 23)) w2.heap.size (0 : UInt8) (0 : UInt8) (bOf []))
  have HH2 := Lib.hid (HH2.out.alloc HH2.out.size _ : Below w.heap.size w (w2.alloc (.cells #[.int .u8 0, .int .u8 0, .string (bOf [])] 23)))
  have cP0 := HP.out.c0
  have cP1 := HP.out.c1
  have cP2 := HP.out.c2
  go_wp2_with fail
  refine (KA2.out _).mono ?_
  rintro e w3 ⟨rfl, hb3⟩
  have HP := Lib.hid (HP.out.callee hb3)
  have HA := Lib.hid (HA.out.callee hb3)
  have HB := Lib.hid (HB.out.callee hb3)
  have HH3 := Lib.hid (HH2.out.trans (hb3.mono HH2.out.size))
  clear hb3
  have cP0 := HP.out.c0
  have cP1 := HP.out.c1
  have cP2 := HP.out.c2
  go_wp2_with fail
  refine (KN2.out _).mono ?_
  rintro e w4 ⟨rfl, hb4⟩
  have HP := Lib.hid (HP.out.callee hb4)
  have HA := Lib.hid (HA.out.callee hb4)
  have HB := Lib.hid (HB.out.callee hb4)
  have HH4 := Lib.hid (HH3.out.trans (hb4.mono HH3.out.size))
  clear hb4
  have cP0 := HP.out.c0
  have cP1 := HP.out.c1
  have cP2 := HP.out.c2
  go_wp2_with fail
  refine (alive_any _).mono ?_
  rintro e w5 ⟨rfl, hb5⟩
  have HP := Lib.hid (HP.out.callee hb5)
  have HA := Lib.hid (HA.out.callee hb5)
  have HB := Lib.hid (HB.out.callee hb5)
  have HH5 := Lib.hid (HH4.out.trans (hb5.mono HH4.out.size))
  clear hb5
  go_wp2
  go_ret
  exact ⟨rfl, HH5.out⟩

set_option maxHeartbeats 8000000 in
set_option maxRecDepth 100000 in
theorem w00_none_false (id c i : UInt8) (n s d : ByteArray) (w : World) (hn : n.size ≤ 4096) (hs : s.size ≤ 4096) (hd : d.size ≤ 4096) (hall : (n.size : Int) + (s.size : Int) + (d.size : Int) ≤ 4096) (h1 : joinE [n, s] ≠ 0) (h2 : joinE [s] ≠ 0) (h3 : asE c d ≠ 0) (h4 : anE c d ≠ 0) :
    Calls Try.prog 4 #[.int .u8 id.toNat, .string n, .string s, .bool false, .agg #[.int .u8 c.toNat, .int .u8 i.toNat, .string d]] w fun e w' => e = .returned (.bool true) ∧ Below w.heap.size w w' := by
  have HH0 := Lib.hid (Below.refl w.heap.size w)
  have HP := Lib.hid (at_new w c i d : At (w.alloc (.cells #[.int .u8 c.toNat, .int .u8 i.toNat, .string d] 23)) w.heap.size c i d)
  have HH0 := Lib.hid (HH0.out.alloc HH0.out.size _ : Below w.heap.size w (w.alloc (.cells #[.int .u8 c.toNat, .int .u8 i.toNat, .string d] 23)))
  have KQ := Lib.hid (fun w => request_any id n s w (by unfold maxLen; omega) (by unfold maxLen; omega))
  have KS := Lib.hid (fun w => answer_any id false s w (by unfold maxLen; omega))
  rw [pkV_no h1] at KQ
  simp only [if_true, Bool.false_eq_true, if_false] at KS
  rw [pkV_no h2] at KS
  have KA2 := Lib.hid (fun w => asked_any c i d w (by unfold maxLen; omega))
  have KN2 := Lib.hid (fun w => answered_any c i d w (by unfold maxLen; omega))
  unfold asV at KA2
  unfold anV at KN2
  have h3' := as_non h3
  have h4' := an_non h4
  rw [h3'.1, h3'.2] at KA2
  rw [h4'.1, h4'.2] at KN2
  have k3 : (asE c d == 0) = false := by rw [beq_eq_false_iff_ne]; exact h3
  have k4 : (anE c d == 0) = false := by rw [beq_eq_false_iff_ne]; exact h4
  generalize asE c d = E3 at *
  generalize anE c d = E4 at *
  clear h3 h4 h3' h4'
  have g1 : ((bOf []).toList == ([] : List UInt8)) = true := by rw [toList_bOf]; rfl
  have g2 : (bOf []).toList.isEmpty = true := no_empty
  have g3 : ¬ 4096 < (n.size : Int) + (s.size : Int) + (d.size : Int) := by omega
  have g4 : ((n.size : Int) + (s.size : Int) + (d.size : Int)) < 9223372036854775808 := by omega
  clear h1 h2
  go_enter Try.func4, Try.ntmps4
  go_wp2_with fail
  refine (KQ.out _).mono ?_
  rintro e w1 ⟨rfl, hb1⟩
  have HP := Lib.hid (HP.out.callee hb1)
  have HH1 := Lib.hid (HH0.out.trans (hb1.mono HH0.out.size))
  clear hb1
  have HP := Lib.hid (HP.out.alloc _ : At (w1.alloc (.cells #[.int .u8 0, .int .u8 0, .string (bOf [])] 23)) w.heap.size c i d)
  have HA := Lib.hid (at_new w1 (0 : UInt8) (0 : UInt8) (bOf []) : At (w1.alloc (.cells #[.int .u8 0, .int .u8 0, .string (bOf [])] 23)) w1.heap.size (0 : UInt8) (0 : UInt8) (bOf []))
  have HH1 := Lib.hid (HH1.out.alloc HH1.out.size _ : Below w.heap.size w (w1.alloc (.cells #[.int .u8 0, .int .u8 0, .string (bOf [])] 23)))
  go_wp2_with fail
  refine (KS.out _).mono ?_
  rintro e w2 ⟨rfl, hb2⟩
  have HP := Lib.hid (HP.out.callee hb2)
  have HA := Lib.hid (HA.out.callee hb2)
  have HH2 := Lib.hid (HH1.out.trans (hb2.mono HH1.out.size))
  clear hb2
  have HP := Lib.hid (HP.out.alloc _ : At (w2.alloc (.cells #[.int .u8 0, .int .u8 0, .string (bOf [])] 23)) w.heap.size c i d)
  have HA := Lib.hid (HA.out.alloc _ : At (w2.alloc (.cells #[.int .u8 0, .int .u8 0, .string (bOf [])] 23)) w1.heap.size (0 : UInt8) (0 : UInt8) (bOf []))
  have HB := Lib.hid (at_new w2 (0 : UInt8) (0 : UInt8) (bOf []) : At (w2.alloc (.cells #[.int .u8 0, .int .u8 0, .string (bOf [])] 23)) w2.heap.size (0 : UInt8) (0 : UInt8) (bOf []))
  have HH2 := Lib.hid (HH2.out.alloc HH2.out.size _ : Below w.heap.size w (w2.alloc (.cells #[.int .u8 0, .int .u8 0, .string (bOf [])] 23)))
  have cP0 := HP.out.c0
  have cP1 := HP.out.c1
  have cP2 := HP.out.c2
  go_wp2_with fail
  refine (KA2.out _).mono ?_
  rintro e w3 ⟨rfl, hb3⟩
  have HP := Lib.hid (HP.out.callee hb3)
  have HA := Lib.hid (HA.out.callee hb3)
  have HB := Lib.hid (HB.out.callee hb3)
  have HH3 := Lib.hid (HH2.out.trans (hb3.mono HH2.out.size))
  clear hb3
  have cP0 := HP.out.c0
  have cP1 := HP.out.c1
  have cP2 := HP.out.c2
  go_wp2_with fail
  refine (KN2.out _).mono ?_
  rintro e w4 ⟨rfl, hb4⟩
  have HP := Lib.hid (HP.out.callee hb4)
  have HA := Lib.hid (HA.out.callee hb4)
  have HB := Lib.hid (HB.out.callee hb4)
  have HH4 := Lib.hid (HH3.out.trans (hb4.mono HH3.out.size))
  clear hb4
  have cP0 := HP.out.c0
  have cP1 := HP.out.c1
  have cP2 := HP.out.c2
  go_wp2_with fail
  refine (alive_any _).mono ?_
  rintro e w5 ⟨rfl, hb5⟩
  have HP := Lib.hid (HP.out.callee hb5)
  have HA := Lib.hid (HA.out.callee hb5)
  have HB := Lib.hid (HB.out.callee hb5)
  have HH5 := Lib.hid (HH4.out.trans (hb5.mono HH4.out.size))
  clear hb5
  go_wp2
  go_ret
  exact ⟨rfl, HH5.out⟩

theorem join_less {n s : ByteArray} (h : joinE [n, s] = 0) : joinE [s] = 0 := by
  have hz := (join_zero h).1
  exact (join_yes (l := [s]) (fun u hu => hz u (by simp at hu; simp [hu]))).1
set_option maxHeartbeats 8000000 in
set_option maxRecDepth 100000 in
theorem walk (id c i : UInt8) (n s d : ByteArray) (v : Bool) (hn : n.size ≤ 140737488351232) (hs : s.size ≤ 140737488351232) (hd : d.size ≤ 140737488351232) (w : World) :
    Calls Try.prog 4 #[.int .u8 id.toNat, .string n, .string s, .bool v, .agg #[.int .u8 c.toNat, .int .u8 i.toNat, .string d]] w fun e w' => e = .returned (.bool true) ∧ Below w.heap.size w w' := by
  by_cases h : 4096 < (n.size : Int) + (s.size : Int) + (d.size : Int)
  · have HH0 := Lib.hid (Below.refl w.heap.size w)
    have HP := Lib.hid (at_new w c i d : At (w.alloc (.cells #[.int .u8 c.toNat, .int .u8 i.toNat, .string d] 23)) w.heap.size c i d)
    have HH0 := Lib.hid (HH0.out.alloc HH0.out.size _ : Below w.heap.size w (w.alloc (.cells #[.int .u8 c.toNat, .int .u8 i.toNat, .string d] 23)))
    go_enter Try.func4, Try.ntmps4
    go_wp2_with fail
    refine (alive_any _).mono ?_
    rintro e w1 ⟨rfl, hb1⟩
    have HP := Lib.hid (HP.out.callee hb1)
    have HH1 := Lib.hid (HH0.out.trans (hb1.mono HH0.out.size))
    clear hb1
    go_wp2
    go_ret
    exact ⟨rfl, HH1.out⟩
  · by_cases h1 : joinE [n, s] = 0
    · have h2 := join_less h1
      by_cases h3 : asE c d = 0
      · cases v
        · exact w11_ask_false id c i n s d w (by omega) (by omega) (by omega) (by omega) h1 h2 h3
        · exact w11_ask_true id c i n s d w (by omega) (by omega) (by omega) (by omega) h1 h2 h3
      · by_cases h4 : anE c d = 0
        · cases v
          · exact w11_ans_false id c i n s d w (by omega) (by omega) (by omega) (by omega) h1 h2 h4
          · exact w11_ans_true id c i n s d w (by omega) (by omega) (by omega) (by omega) h1 h2 h4
        · cases v
          · exact w11_none_false id c i n s d w (by omega) (by omega) (by omega) (by omega) h1 h2 h3 h4
          · exact w11_none_true id c i n s d w (by omega) (by omega) (by omega) (by omega) h1 h2 h3 h4
    · by_cases h2 : joinE [s] = 0
      · by_cases h3 : asE c d = 0
        · cases v
          · exact w01_ask_false id c i n s d w (by omega) (by omega) (by omega) (by omega) h1 h2 h3
          · exact w01_ask_true id c i n s d w (by omega) (by omega) (by omega) (by omega) h1 h2 h3
        · by_cases h4 : anE c d = 0
          · cases v
            · exact w01_ans_false id c i n s d w (by omega) (by omega) (by omega) (by omega) h1 h2 h4
            · exact w01_ans_true id c i n s d w (by omega) (by omega) (by omega) (by omega) h1 h2 h4
          · cases v
            · exact w01_none_false id c i n s d w (by omega) (by omega) (by omega) (by omega) h1 h2 h3 h4
            · exact w01_none_true id c i n s d w (by omega) (by omega) (by omega) (by omega) h1 h2 h3 h4
      · by_cases h3 : asE c d = 0
        · cases v
          · exact w00_ask_false id c i n s d w (by omega) (by omega) (by omega) (by omega) h1 h2 h3
          · exact w00_ask_true id c i n s d w (by omega) (by omega) (by omega) (by omega) h1 h2 h3
        · by_cases h4 : anE c d = 0
          · cases v
            · exact w00_ans_false id c i n s d w (by omega) (by omega) (by omega) (by omega) h1 h2 h4
            · exact w00_ans_true id c i n s d w (by omega) (by omega) (by omega) (by omega) h1 h2 h4
          · cases v
            · exact w00_none_false id c i n s d w (by omega) (by omega) (by omega) (by omega) h1 h2 h3 h4
            · exact w00_none_true id c i n s d w (by omega) (by omega) (by omega) (by omega) h1 h2 h3 h4

set_option maxRecDepth 100000 in
theorem lifted (os : Os) (started : os.Started) (H : Type) (enc : TypeId × Value → H) :
    ReturnsInHanded {} Try.checked os 4 .any (Rows.papBackSpec.pre6 enc Try.prog Try.f4 Rows.papBackRow.domain false) (Rows.papBackSpec.post enc Try.prog Try.f4 false true false false) := by
  refine returnsInHanded_of_change_sized (C := Try.checked) own started (by kernel_rfl) Try.func4
    (ChangeSpec.witness6 (enc := enc) (C := Try.checked) false ⟨#[], #[.int .u8 0, .string ByteArray.empty, .string ByteArray.empty, .bool false, .agg #[.int .u8 0, .int .u8 0, .string ByteArray.empty]], []⟩ 8 (by kernel_rfl) (by kernel_rfl) (by kernel_rfl) (by kernel_rfl)) ?_
  intro W base args ds gs before hval0 hW hcnd hsz0 _
  have hsz : (DataW.weightsEach Try.prog (Try.f4.params.toList ++ Rows.papBackSpec.plain.varTypes Try.prog) (ds ++ gs)).all (· ≤ reachBytes) = true := hsz0
  have hval : ∀ (j : Nat) t v, Try.f4.params[j]? = some t → args[j]? = some v → Value.okWide Try.prog W .any base t v := hval0
  have hW' := hW
  obtain ⟨p, q, hA0, hV, rfl, hfz, hnd⟩ := hW
  have hlt := hW'.lt
  have hA : DataW.TrodAll enc Try.prog W 0 (fun _ => true) true Try.f4.params.toList args.toList ds p := hA0
  rw [Try.params4] at hA hval hsz
  obtain ⟨v0, vs0, d0, ds0, p0, q0, hargs, rfl, rfl, h0, r0⟩ := trodAll_cons hA
  obtain ⟨v1, vs1, d1, ds1, p1, q1, rfl, rfl, rfl, h1, r1⟩ := trodAll_cons r0
  obtain ⟨v2, vs2, d2, ds2, p2, q2, rfl, rfl, rfl, h2, r2⟩ := trodAll_cons r1
  obtain ⟨v3, vs3, d3, ds3, p3, q3, rfl, rfl, rfl, h3, r3⟩ := trodAll_cons r2
  obtain ⟨v4, vs4, d4, ds4, p4, q4, rfl, rfl, rfl, h4, r4⟩ := trodAll_cons r3
  obtain ⟨rfl, rfl, rfl⟩ := trodAll_nil r4
  obtain rfl : args = #[v0, v1, v2, v3, v4] := by cases args; simp_all
  obtain ⟨rfl, rfl⟩ := trodVars_none hV
  obtain ⟨z0, rfl, rfl, rfl, w0⟩ := open_int Try.underlying5 (hval 0 5 v0 rfl rfl) h0
  have b0 := bounds_u8 w0
  obtain ⟨a0, rfl⟩ := u8_of (z := z0) (by omega) (by omega)
  obtain ⟨a1, rfl, rfl, rfl, w1⟩ := open_string Try.underlying9 (hval 1 9 v1 rfl rfl) h1
  obtain ⟨a2, rfl, rfl, rfl, w2⟩ := open_string Try.underlying9 (hval 2 9 v2 rfl rfl) h2
  obtain ⟨a3, rfl, rfl, rfl⟩ := open_bool Try.underlying4 (hval 3 4 v3 rfl rfl) h3
  obtain ⟨c4, i4, a4, rfl, z4⟩ := pk3_of Try.underlying23 (by kernel_rfl) (by kernel_rfl) Try.underlying5 Try.underlying5 Try.underlying9 (hval 4 23 v4 rfl rfl) h4 (fun n hn => of_decide_eq_true (List.all_eq_true.1 hsz n (DataW.weights_mem_each (j := 4) (t := 23) rfl rfl n hn)))
  have z1 : a1.size ≤ 140737488351232 := by have h := sized_string hsz (j := 1) (t := 9) rfl rfl; rw [Array.length_toList] at h; exact h
  have z2 : a2.size ≤ 140737488351232 := by have h := sized_string hsz (j := 2) (t := 9) rfl rfl; rw [Array.length_toList] at h; exact h
  clear hA0 hval0 hsz0
  exact (walk a0 c4 i4 a1 a2 a4 a3 z1 z2 z4 W).mono fun e W' ⟨he, hb⟩ => ⟨_, he, law_post (t := 4) laidOut (by kernel_rfl) rfl rfl Try.underlying4 ⟨rfl, rfl, rfl⟩ hW' hb⟩

theorem over : Rows.papBackRow.holds Try.pinned (OpenSpec.ofChange Rows.papBackSpec) :=
  OpenClaim.holds_of_wide 4 Try.f4 rfl rfl rfl rfl rfl rfl rfl ⟨rfl, rfl, rfl, rfl, rfl⟩ rfl rfl rfl rfl rfl (by kernel_rfl) Try.func4 (by kernel_rfl)
    (of_decide_eq_true (by kernel_rfl)) (by unfold Func.isWrapper; first | (rw [if_pos (by decide +kernel)]; kernel_rfl) | (rw [if_neg (by decide +kernel)]; exact ⟨rfl, rfl⟩))
    (fun os started H enc _ => lifted os started H enc)

theorem proved : Rows.PapBackSaid :=
  over
#print axioms proved
end Go.Proofs.Ythddfpmjjbpkgaa.PapBack
