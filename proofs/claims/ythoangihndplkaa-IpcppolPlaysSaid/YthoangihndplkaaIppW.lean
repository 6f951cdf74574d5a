/- Contract of alive. -/
import Derived.Test.YthoangihndplkaaGIppU
import Derived.Test.YthoangihndplkaaIpcK
namespace Go.Proofs.Ythoangihndplkaa.Ipp
open Go.RowKit Go.Proofs.Ythoangihndplkaa.Oct Go.Proofs.Ythoangihndplkaa.Row Go.Proofs.Ythoangihndplkaa.Mem Go.Proofs.Ythoangihndplkaa.Opt Go.Proofs.Ythoangihndplkaa.Ipc

theorem addr0 (w : World) : Calls Try.prog 19 #[.int .u8 0] w fun e w' => e = .returned (.agg #[.int .u8 3, .string (bOf [0, 0, 0, 0])]) ∧ Below w.heap.size w w' := addr_any 0 w
theorem addr9 (w : World) : Calls Try.prog 19 #[.int .u8 9] w fun e w' => e = .returned (.agg #[.int .u8 3, .string (bOf [0, 0, 0, 9])]) ∧ Below w.heap.size w w' := addr_any 9 w
theorem rowA (v : UInt8) (w : World) : Opts (w.alloc (.cells #[.int .u8 3, .string (bOf [0, 0, 0, v])] 48)) (w.alloc (.cells #[.int .u8 3, .string (bOf [0, 0, 0, v])] 48)).heap.size (some ⟨w.heap.size, 0, none⟩) 1 [oA v] :=
  one_opt w (oA v) (by show (bOf [0, 0, 0, v]).size ≤ _; rw [size_bOf]; show 4 ≤ 140737488351232; omega)
set_option maxHeartbeats 8000000 in
set_option maxRecDepth 100000 in
theorem alive_any (w : World) : Calls Try.prog 5 #[] w fun e w' => e = .returned (.bool true) ∧ Below w.heap.size w w' := by
  have R0 : Hid (∀ W : World, Opts (W.alloc (.cells #[.int .u8 3, .string (bOf [0, 0, 0, 0])] 48)) (W.alloc (.cells #[.int .u8 3, .string (bOf [0, 0, 0, 0])] 48)).heap.size (some ⟨W.heap.size, 0, none⟩) 1 [oA 0]) := rowA 0
  have R9 : Hid (∀ W : World, Opts (W.alloc (.cells #[.int .u8 3, .string (bOf [0, 0, 0, 9])] 48)) (W.alloc (.cells #[.int .u8 3, .string (bOf [0, 0, 0, 9])] 48)).heap.size (some ⟨W.heap.size, 0, none⟩) 1 [oA 9]) := rowA 9
  have A0 := Lib.hid addr0
  have A9 := Lib.hid addr9
  generalize bOf [0, 0, 0, 0] = s0 at *
  generalize bOf [0, 0, 0, 9] = s9 at *
  go_enter Try.func5, Try.ntmps5
  go_wp2_with fail
  refine (newA _).mono ?_
  rintro e w1 ⟨g, rfl, hg1, hp1, hb1⟩
  have H1 : Hid (Al w w1 g (newP ec)) := ⟨hp1, hb1, hg1⟩
  have Hc : Hid ((newP ec).c = ec ∧ (newP ec).naks = 0) := ⟨rfl, rfl⟩
  clear hg1 hp1 hb1
  generalize newP ec = p at *
  go_wp2_with fail
  refine (newN _).mono ?_
  rintro e w2 ⟨rfl, hb2⟩
  have H2 := Lib.hid (H1.out.callee hb2)
  clear hb2 H1
  go_wp2_with fail
  refine (A0.out _).mono ?_
  rintro e w3 ⟨rfl, hb3⟩
  have H3 := Lib.hid ((H2.out.callee hb3).callee ((Below.refl _ _).alloc (Nat.le_refl _) (.cells #[.int .u8 3, .string s0] 48)))
  clear hb3 H2
  have E1 := Lib.hid (ex_nak1 Hc.out.1 (by rw [Hc.out.2]; omega))
  go_wp2_with fail
  refine (judge_at (C := 3) (m := 1) H3.out.p (R0.out w3) (fun e => by cases e) (by omega) (by rw [Hc.out.2]; omega) E1.out.1 E1.out.2.1 rfl).mono ?_
  rintro e w4 ⟨A4, c4, rfl, ho4, hp4, hm4⟩
  have H4 := Lib.hid (H3.out.m hm4 hp4)
  have HX := Lib.hid ho4
  have Hc4 : Hid ((jP p [oA 0]).c = ec ∧ (jP p [oA 0]).naks = 1) := by
    show _ ∧ _
    rw [E1.out.2.2]
    exact ⟨Hc.out.1, by show p.naks + 1 = 1; rw [Hc.out.2]⟩
  clear hp4 hm4 ho4 H3 E1 Hc
  generalize jP p [oA 0] = p4 at *
  have E2 := Lib.hid (ex_nak0 Hc4.out.1 (by rw [Hc4.out.2]; omega))
  go_wp2_with fail
  refine (judge_at (C := 3) (m := 1) H4.out.p (opts_nil w4 _) (fun _ => rfl) (by omega) (by rw [Hc4.out.2]; omega) E2.out.1 E2.out.2.1 rfl).mono ?_
  rintro e w5 ⟨A5, c5, rfl, ho5, hp5, hm5⟩
  have H5 := Lib.hid (H4.out.m hm5 hp5)
  have HX5 := Lib.hid (H4.out.x hm5 HX.out)
  have HY5 := Lib.hid ho5
  have Hc5 : Hid ((jP p4 []).c = ec ∧ (jP p4 []).naks = 2) := by
    show _ ∧ _
    rw [E2.out.2.2]
    exact ⟨Hc4.out.1, by show p4.naks + 1 = 2; rw [Hc4.out.2]⟩
  clear hp5 hm5 ho5 H4 E2 Hc4 HX
  generalize jP p4 [] = p5 at *
  go_wp2_with fail
  refine (A9.out _).mono ?_
  rintro e w6 ⟨rfl, hb6⟩
  have H6 := Lib.hid ((H5.out.callee hb6).callee ((Below.refl _ _).alloc (Nat.le_refl _) (.cells #[.int .u8 3, .string s9] 48)))
  have HX6 := Lib.hid ((HX5.out.next hb6).laid (.cells #[.int .u8 3, .string s9] 48))
  have HY6 := Lib.hid ((HY5.out.next hb6).laid (.cells #[.int .u8 3, .string s9] 48))
  clear hb6 H5 HX5 HY5
  have E3 := Lib.hid (ex_ack Hc5.out.1)
  go_wp2_with fail
  refine (judge_at (C := 2) (m := 1) H6.out.p (R9.out w6) (fun e => by cases e) (by omega) (by rw [Hc5.out.2]; omega) E3.out.1 E3.out.2.1 rfl).mono ?_
  rintro e w7 ⟨A7, c7, rfl, ho7, hp7, hm7⟩
  have H7 := Lib.hid (H6.out.m hm7 hp7)
  have HX7 := Lib.hid (H6.out.x hm7 HX6.out)
  have HY7 := Lib.hid (H6.out.x hm7 HY6.out)
  have HZ7 := Lib.hid ho7
  have HPe := Lib.hid E3.out.2.2
  clear hp7 hm7 ho7 H6 HX6 HY6 E3 Hc5
  generalize jP p5 [oA 9] = p7 at *
  go_wp2_with fail
  refine (A9.out _).mono ?_
  rintro e w8 ⟨rfl, hb8⟩
  have HB8 : Hid (Below w7.heap.size w7 (w8.alloc (.cells #[.int .u8 3, .string s9] 48))) := hb8.alloc hb8.size _
  have H8 := Lib.hid (H7.out.callee HB8.out)
  have HX8 := Lib.hid (HX7.out.next HB8.out)
  have HY8 := Lib.hid (HY7.out.next HB8.out)
  have HZ8 := Lib.hid (HZ7.out.next HB8.out)
  clear hb8 HB8 H7 HX7 HY7 HZ7
  go_wp2_with fail
  refine (same_self [oA 9] _ _ 1 1 _ _ _ HX8.out (R9.out w8) (by unfold maxLen; omega) (by unfold maxLen; omega)).mono ?_
  rintro e w9 ⟨rfl, hb9⟩
  have H9 := Lib.hid (H8.out.callee hb9)
  have HY9 := Lib.hid (HY8.out.next hb9)
  have HZ9 := Lib.hid (HZ8.out.next hb9)
  clear hb9 H8 HX8 HY8 HZ8
  go_wp2_with fail
  refine (A9.out _).mono ?_
  rintro e w10 ⟨rfl, hb10⟩
  have HB10 : Hid (Below w9.heap.size w9 (w10.alloc (.cells #[.int .u8 3, .string s9] 48))) := hb10.alloc hb10.size _
  have H10 := Lib.hid (H9.out.callee HB10.out)
  have HY10 := Lib.hid (HY9.out.next HB10.out)
  have HZ10 := Lib.hid (HZ9.out.next HB10.out)
  clear hb10 HB10 H9 HY9 HZ9
  go_wp2_with fail
  refine (same_self [oA 9] _ _ 1 1 _ _ _ HY10.out (R9.out w10) (by unfold maxLen; omega) (by unfold maxLen; omega)).mono ?_
  rintro e w11 ⟨rfl, hb11⟩
  have H11 := Lib.hid (H10.out.callee hb11)
  have HZ11 := Lib.hid (HZ10.out.next hb11)
  clear hb11 H10 HY10 HZ10
  go_wp2_with fail
  refine (A9.out _).mono ?_
  rintro e w12 ⟨rfl, hb12⟩
  have HB12 : Hid (Below w11.heap.size w11 (w12.alloc (.cells #[.int .u8 3, .string s9] 48))) := hb12.alloc hb12.size _
  have H12 := Lib.hid (H11.out.callee HB12.out)
  have HZ12 := Lib.hid (HZ11.out.next HB12.out)
  clear hb12 HB12 H11 HZ11
  go_wp2_with fail
  refine (same_self [oA 9] _ _ 1 1 _ _ _ HZ12.out (R9.out w12) (by unfold maxLen; omega) (by unfold maxLen; omega)).mono ?_
  rintro e w13 ⟨rfl, hb13⟩
  have H13 := Lib.hid (H12.out.callee hb13)
  clear hb13 H12 HZ12
  have HP : Hid (∀ U, PAt U g p7 → Calls Try.prog 13 #[.pointer (some ⟨g, 0, none⟩)] U fun e w' => e = .returned (.agg #[Value.bool true, .int .u32 9, .bool false, .int .u32 0, .bool false, .int .u32 0]) ∧ Below U.heap.size U w') := fun U hU => by
    have h := peer_any g p7 U hU
    rw [HPe.out] at h
    exact h
  have hEl := fun w => ipc_eql (x := ⟨true, 9, false, 0, false, 0⟩) (y := ⟨true, 9, false, 0, false, 0⟩) (decide_eq_true rfl) w
  go_wp2_with fail
  refine (HP.out _ H13.out.p).mono ?_
  rintro e w14 ⟨rfl, hb14⟩
  have HB := Lib.hid (H13.out.b.trans (hb14.mono H13.out.b.size))
  clear hb14 H13 HP HPe
  go_wp2
  go_ret
  exact ⟨rfl, HB.out⟩
end Go.Proofs.Ythoangihndplkaa.Ipp
