/- Contracts of Check and of the law's examples. -/
import Derived.Test.YthddfpmjjbpkgaaPapD
import Derived.Test.YthddfpmjjbpkgaaPapE
import Derived.Test.YthddfpmjjbpkgaaPktEq
import Derived.Test.YthddfpmjjbpkgaaPktAt
namespace Go.Proofs.Ythddfpmjjbpkgaa.Pap
open Go.RowKit Go.Proofs.Ythddfpmjjbpkgaa.Oct Go.Proofs.Ythddfpmjjbpkgaa.Row Go.Proofs.Ythddfpmjjbpkgaa.Mem Go.Proofs.Ythddfpmjjbpkgaa.Pkt

/-- Whether a packet asks with just these. -/
def ckB (c : UInt8) (d a b : ByteArray) : Bool := decide (asE c d = 0 ∧ asT c d 0 = a ∧ asT c d 1 = b)
theorem str_eq (s t : ByteArray) : (s.toList == t.toList) = decide (s = t) := by
  rw [beq_toList]
  by_cases h : s = t
  · subst h; simp
  · rw [decide_eq_false h, decide_eq_false fun e => h (toList_inj e)]

set_option maxHeartbeats 1000000 in
set_option maxRecDepth 100000 in
theorem check_any (c i : UInt8) (d a b : ByteArray) (w : World) (hd : d.size ≤ maxLen) :
    Calls Try.prog 15 #[.agg #[.int .u8 c.toNat, .int .u8 i.toNat, .string d], .string a, .string b] w fun e w' => e = .returned (.bool (ckB c d a b)) ∧ Below w.heap.size w w' := by
  have HA := Lib.hid (fun w => asked_any c i d w hd)
  obtain ⟨E, hE⟩ : ∃ E, asE c d = E := ⟨_, rfl⟩
  obtain ⟨x, hx⟩ : ∃ x, asT c d 0 = x := ⟨_, rfl⟩
  obtain ⟨y, hy⟩ : ∃ y, asT c d 1 = y := ⟨_, rfl⟩
  unfold asV at HA
  unfold ckB
  rw [hE, hx, hy] at HA
  rw [hE, hx, hy]
  have HB : Hid (Below w.heap.size w (w.alloc (.cells #[.int .u8 c.toNat, .int .u8 i.toNat, .string d] 23))) := (Below.refl _ w).alloc (Nat.le_refl _) _
  clear hd hE hx hy
  by_cases h0 : E = 0
  · subst h0
    by_cases h1 : x = a
    · subst h1
      have hxx := str_eq x x
      rw [decide_eq_true rfl] at hxx
      have hyb := str_eq y b
      generalize hq : decide (y = b) = q at *
      rw [show decide ((0 : Int) = 0 ∧ x = x ∧ y = b) = q from by simp [hq]]
      clear hq
      go_enter Try.func15, Try.ntmps15
      go_wp2_with fail
      refine (HA.out _).mono ?_
      rintro e w1 ⟨rfl, hb⟩
      have HB1 := Lib.hid (HB.out.trans (hb.mono HB.out.size))
      clear hb
      go_wp2
      go_ret
      exact ⟨rfl, HB1.out⟩
    · have hxa := str_eq x a
      rw [decide_eq_false h1] at hxa
      rw [show decide ((0 : Int) = 0 ∧ x = a ∧ y = b) = false from by simp [h1]]
      clear h1
      go_enter Try.func15, Try.ntmps15
      go_wp2_with fail
      refine (HA.out _).mono ?_
      rintro e w1 ⟨rfl, hb⟩
      have HB1 := Lib.hid (HB.out.trans (hb.mono HB.out.size))
      clear hb
      go_wp2
      go_ret
      exact ⟨rfl, HB1.out⟩
  · have h1 : (E == 0) = false := by rw [beq_eq_false_iff_ne]; exact h0
    rw [show decide (E = 0 ∧ x = a ∧ y = b) = false from by simp [h0]]
    clear h0
    go_enter Try.func15, Try.ntmps15
    go_wp2_with fail
    refine (HA.out _).mono ?_
    rintro e w1 ⟨rfl, hb⟩
    have HB1 := Lib.hid (HB.out.trans (hb.mono HB.out.size))
    clear hb
    go_wp2
    go_ret
    exact ⟨rfl, HB1.out⟩

theorem ok_two {a b : ByteArray} (ha : a.size ≤ 255) (hb : b.size ≤ 255) : ok8 [a.toList, b.toList] := by
  intro t ht
  simp only [List.mem_cons, List.not_mem_nil, or_false] at ht
  rcases ht with rfl | rfl
  · rw [← size_toList]; exact ha
  · rw [← size_toList]; exact hb
theorem ex_req (w : World) : Calls Try.prog 7 #[.int .u8 3, .string ⟨#[97, 98]⟩, .string ⟨#[99]⟩] w fun e w' => e = .returned (.tuple #[.agg #[.int .u8 1, .int .u8 3, .string ⟨#[2, 97, 98, 1, 99]⟩], .int .i64 0]) ∧ Below w.heap.size w w' := by
  have h := request_any 3 (bOf [97, 98]) (bOf [99]) w (by decide) (by decide)
  have hj := join_yes (l := [bOf [97, 98], bOf [99]]) (ok_two (by decide) (by decide))
  rw [pkV_ok hj.1, hj.2] at h
  simp only [List.map_cons, List.map_nil, toList_bOf] at h
  exact h
theorem ex_end (w : World) : Calls Try.prog 11 #[.agg #[.int .u8 1, .int .u8 3, .string ⟨#[2, 97]⟩]] w fun e w' => e = .returned (.tuple #[.string (bOf []), .string (bOf []), .int .i64 6]) ∧ Below w.heap.size w w' := by
  have h := asked_any 1 3 (bOf [2, 97]) w (by decide)
  rw [asV_end (rd_two_end (by rw [toList_bOf]; decide))] at h
  exact h
theorem ex_type (w : World) : Calls Try.prog 11 #[.agg #[.int .u8 2, .int .u8 0, .string ⟨#[]⟩]] w fun e w' => e = .returned (.tuple #[.string (bOf []), .string (bOf []), .int .i64 8]) ∧ Below w.heap.size w w' := by
  have h := asked_any 2 0 (bOf []) w (by decide)
  rw [asV_no (by decide)] at h
  exact h
theorem ex_ans (w : World) : Calls Try.prog 9 #[.int .u8 3, .bool true, .string ⟨#[]⟩] w fun e w' => e = .returned (.tuple #[.agg #[.int .u8 2, .int .u8 3, .string ⟨#[0]⟩], .int .i64 0]) ∧ Below w.heap.size w w' := by
  have h := answer_any 3 true (bOf []) w (by decide)
  have hj := join_yes (l := [bOf []]) (fun t ht => by simp only [List.map_cons, List.map_nil, toList_bOf, List.mem_singleton] at ht; subst ht; decide)
  rw [pkV_ok hj.1, hj.2] at h
  simp only [List.map_cons, List.map_nil, toList_bOf] at h
  exact h
theorem ex_as : asV 1 (bOf [2, 97, 98, 1, 99]) = .tuple #[.string (bOf [97, 98]), .string (bOf [99]), .int .i64 0] :=
  asV_ok (by rw [toList_bOf]; exact rd_two (t := [97, 98]) (r := [1, 99]) (t' := [99]) (r' := []) (by decide) (by decide))
theorem ex_asE : asE 1 (bOf [2, 97, 98, 1, 99]) = 0 ∧ asT 1 (bOf [2, 97, 98, 1, 99]) 0 = bOf [97, 98] ∧ asT 1 (bOf [2, 97, 98, 1, 99]) 1 = bOf [99] := by
  have h := ex_as
  unfold asV at h
  simp only [Value.tuple.injEq, Array.mk.injEq, List.cons.injEq, Value.string.injEq, Value.int.injEq, true_and, and_true] at h
  exact ⟨h.2.2, h.1, h.2.1⟩
theorem ex_yes (w : World) : Calls Try.prog 15 #[.agg #[.int .u8 1, .int .u8 3, .string ⟨#[2, 97, 98, 1, 99]⟩], .string ⟨#[97, 98]⟩, .string ⟨#[99]⟩] w fun e w' => e = .returned (.bool true) ∧ Below w.heap.size w w' := by
  have h := check_any 1 3 (bOf [2, 97, 98, 1, 99]) (bOf [97, 98]) (bOf [99]) w (by decide)
  rw [show ckB 1 (bOf [2, 97, 98, 1, 99]) (bOf [97, 98]) (bOf [99]) = true from decide_eq_true ex_asE] at h
  exact h
theorem ex_no (w : World) : Calls Try.prog 15 #[.agg #[.int .u8 1, .int .u8 3, .string ⟨#[2, 97, 98, 1, 99]⟩], .string ⟨#[97, 98]⟩, .string ⟨#[100]⟩] w fun e w' => e = .returned (.bool false) ∧ Below w.heap.size w w' := by
  have h := check_any 1 3 (bOf [2, 97, 98, 1, 99]) (bOf [97, 98]) (bOf [100]) w (by decide)
  rw [show ckB 1 (bOf [2, 97, 98, 1, 99]) (bOf [97, 98]) (bOf [100]) = false from decide_eq_false fun e => by
    have h1 := ex_asE.2.2.symm.trans e.2.2
    have h2 := congrArg ByteArray.toList h1
    rw [toList_bOf, toList_bOf] at h2
    cases h2] at h
  exact h

set_option maxHeartbeats 4000000 in
set_option maxRecDepth 100000 in
theorem alive_any (w : World) : Calls Try.prog 6 #[] w fun e w' => e = .returned (.bool true) ∧ Below w.heap.size w w' := by
  have HH0 := Lib.hid (Below.refl w.heap.size w)
  have hp0 : ∀ W, (Op.equalIn 10000 23 (.agg #[.int .u8 1, .int .u8 3, .string ⟨#[2, 97, 98, 1, 99]⟩]) (.agg #[.int .u8 1, .int .u8 3, .string ⟨#[2, 97, 98, 1, 99]⟩])).run Try.prog W = .ok true W := pk_eq (c := 1) (c' := 1) (i := 3) (i' := 3) (pk_same _ _ _)
  have hp1 : ∀ W, (binOp .eql 23 (.agg #[.int .u8 1, .int .u8 3, .string ⟨#[2, 97, 98, 1, 99]⟩]) (.agg #[.int .u8 1, .int .u8 3, .string ⟨#[2, 97, 98, 1, 99]⟩])).run Try.prog W = .ok (.bool true) W := pk_eql (c := 1) (c' := 1) (i := 3) (i' := 3) (pk_same _ _ _)
  have hq0 : ∀ W, (Op.equalIn 10000 23 (.agg #[.int .u8 2, .int .u8 3, .string ⟨#[0]⟩]) (.agg #[.int .u8 2, .int .u8 3, .string ⟨#[0]⟩])).run Try.prog W = .ok true W := pk_eq (c := 2) (c' := 2) (i := 3) (i' := 3) (pk_same _ _ _)
  have hq1 : ∀ W, (binOp .eql 23 (.agg #[.int .u8 2, .int .u8 3, .string ⟨#[0]⟩]) (.agg #[.int .u8 2, .int .u8 3, .string ⟨#[0]⟩])).run Try.prog W = .ok (.bool true) W := pk_eql (c := 2) (c' := 2) (i := 3) (i' := 3) (pk_same _ _ _)
  go_enter Try.func6, Try.ntmps6
  go_wp2_with fail
  refine (ex_req _).mono ?_
  rintro e w1 ⟨rfl, hb1⟩
  have HH1 := Lib.hid (HH0.out.trans (hb1.mono HH0.out.size))
  clear hb1
  have HP := Lib.hid (at_new w1 (1 : UInt8) (3 : UInt8) ⟨#[2, 97, 98, 1, 99]⟩ : At (w1.alloc (.cells #[.int .u8 1, .int .u8 3, .string ⟨#[2, 97, 98, 1, 99]⟩] 23)) w1.heap.size (1 : UInt8) (3 : UInt8) ⟨#[2, 97, 98, 1, 99]⟩)
  have HH1 := Lib.hid (HH1.out.alloc HH1.out.size _ : Below w.heap.size w (w1.alloc (.cells #[.int .u8 1, .int .u8 3, .string ⟨#[2, 97, 98, 1, 99]⟩] 23)))
  go_wp2_with fail
  refine (ex_end _).mono ?_
  rintro e w2 ⟨rfl, hb2⟩
  have HP := Lib.hid (HP.out.callee hb2)
  have HH2 := Lib.hid (HH1.out.trans (hb2.mono HH1.out.size))
  clear hb2
  go_wp2_with fail
  refine (ex_type _).mono ?_
  rintro e w3 ⟨rfl, hb3⟩
  have HP := Lib.hid (HP.out.callee hb3)
  have HH3 := Lib.hid (HH2.out.trans (hb3.mono HH2.out.size))
  clear hb3
  go_wp2_with fail
  refine (ex_ans _).mono ?_
  rintro e w4 ⟨rfl, hb4⟩
  have HP := Lib.hid (HP.out.callee hb4)
  have HH4 := Lib.hid (HH3.out.trans (hb4.mono HH3.out.size))
  clear hb4
  have HP := Lib.hid (HP.out.alloc _ : At (w4.alloc (.cells #[.int .u8 2, .int .u8 3, .string ⟨#[0]⟩] 23)) w1.heap.size (1 : UInt8) (3 : UInt8) ⟨#[2, 97, 98, 1, 99]⟩)
  have HQ := Lib.hid (at_new w4 (2 : UInt8) (3 : UInt8) ⟨#[0]⟩ : At (w4.alloc (.cells #[.int .u8 2, .int .u8 3, .string ⟨#[0]⟩] 23)) w4.heap.size (2 : UInt8) (3 : UInt8) ⟨#[0]⟩)
  have HH4 := Lib.hid (HH4.out.alloc HH4.out.size _ : Below w.heap.size w (w4.alloc (.cells #[.int .u8 2, .int .u8 3, .string ⟨#[0]⟩] 23)))
  have cP0 := HP.out.c0
  have cP1 := HP.out.c1
  have cP2 := HP.out.c2
  simp only [show (1 : UInt8).toNat = 1 from rfl, show (2 : UInt8).toNat = 2 from rfl, show (3 : UInt8).toNat = 3 from rfl] at cP0 cP1
  have cQ0 := HQ.out.c0
  have cQ1 := HQ.out.c1
  have cQ2 := HQ.out.c2
  simp only [show (1 : UInt8).toNat = 1 from rfl, show (2 : UInt8).toNat = 2 from rfl, show (3 : UInt8).toNat = 3 from rfl] at cQ0 cQ1
  go_wp2_with fail
  refine (ex_yes _).mono ?_
  rintro e w5 ⟨rfl, hb5⟩
  have HP := Lib.hid (HP.out.callee hb5)
  have HQ := Lib.hid (HQ.out.callee hb5)
  have HH5 := Lib.hid (HH4.out.trans (hb5.mono HH4.out.size))
  clear hb5
  have cP0 := HP.out.c0
  have cP1 := HP.out.c1
  have cP2 := HP.out.c2
  simp only [show (1 : UInt8).toNat = 1 from rfl, show (2 : UInt8).toNat = 2 from rfl, show (3 : UInt8).toNat = 3 from rfl] at cP0 cP1
  have cQ0 := HQ.out.c0
  have cQ1 := HQ.out.c1
  have cQ2 := HQ.out.c2
  simp only [show (1 : UInt8).toNat = 1 from rfl, show (2 : UInt8).toNat = 2 from rfl, show (3 : UInt8).toNat = 3 from rfl] at cQ0 cQ1
  go_wp2_with fail
  refine (ex_no _).mono ?_
  rintro e w6 ⟨rfl, hb6⟩
  have HP := Lib.hid (HP.out.callee hb6)
  have HQ := Lib.hid (HQ.out.callee hb6)
  have HH6 := Lib.hid (HH5.out.trans (hb6.mono HH5.out.size))
  clear hb6
  have cP0 := HP.out.c0
  have cP1 := HP.out.c1
  have cP2 := HP.out.c2
  simp only [show (1 : UInt8).toNat = 1 from rfl, show (2 : UInt8).toNat = 2 from rfl, show (3 : UInt8).toNat = 3 from rfl] at cP0 cP1
  have cQ0 := HQ.out.c0
  have cQ1 := HQ.out.c1
  have cQ2 := HQ.out.c2
  simp only [show (1 : UInt8).toNat = 1 from rfl, show (2 : UInt8).toNat = 2 from rfl, show (3 : UInt8).toNat = 3 from rfl] at cQ0 cQ1
  go_wp2
  go_ret
  exact ⟨rfl, HH6.out⟩
end Go.Proofs.Ythddfpmjjbpkgaa.Pap
