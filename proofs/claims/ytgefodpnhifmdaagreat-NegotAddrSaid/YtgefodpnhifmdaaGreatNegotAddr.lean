/- PROVED: 'halyardlaw16.NegotAddr' returns true for any two addresses, any two name servers, whether these are asked for, and any order, and leaves them as they were. No condition. Written by gen/neg_addr.py. -/
import Derived.Test.YtgefodpnhifmdaaGreatNegWj
import Derived.Test.YtgefodpnhifmdaaGreatNegWr
import Derived.Test.YtgefodpnhifmdaaGreatGNegIp
import Derived.Test.YtgefodpnhifmdaaGreatGNegK
import Derived.Test.YtgefodpnhifmdaaGreatIpcK
import Derived.Test.YtgefodpnhifmdaaGreatOptOf
import Derived.Test.YtgefodpnhifmdaaGreatLaw
import Derived.Test.YtgefodpnhifmdaaGreatRows
import Derived.SizedLaws
namespace Go.Proofs.YtgefodpnhifmdaaGreat.NegotAddr
open Go.ChangeShapes Go.WideShapes Go.ChangeAt Go.RowKit Go.Proofs.YtgefodpnhifmdaaGreat.Oct Go.Proofs.YtgefodpnhifmdaaGreat.Row Go.Proofs.YtgefodpnhifmdaaGreat.Fsm Go.Proofs.YtgefodpnhifmdaaGreat.Mem Go.Proofs.YtgefodpnhifmdaaGreat.Law Go.Proofs.YtgefodpnhifmdaaGreat.Opt Go.Proofs.YtgefodpnhifmdaaGreat.Neg
set_option maxRecDepth 100000 in
theorem own : ownKnob Tryz.prog.godebug = none := by kernel_rfl
set_option maxRecDepth 100000 in
theorem laidOut : laidOutB Tryz.prog = true := by kernel_rfl

theorem pa_ok (own give d1 d2 : UInt32) : ipK.ok (Ipp.newP (Ipp.ca own give d1 d2)) := by
  show Ipc.may _ = true
  simp [Ipc.may, Ipp.newP, Ipp.wish, Ipp.ca]
theorem pb_ok (want : Bool) : ipK.ok (Ipp.newP (Ipp.cb want)) := by
  show Ipc.may _ = true
  simp [Ipc.may, Ipp.newP, Ipp.wish, Ipp.cb]
theorem j_sx (p : Ipp.Po) (h : ipK.ok p) : Sx (jS p 2) 6 p 1 := ⟨rfl, s6_ok may3 (by decide) (by decide) (by decide) (by decide) h, rfl, rfl, rfl, rfl⟩
theorem j_rq (p : Ipp.Po) : jT p 2 = [⟨1, 1, reqD ipK p⟩] := rfl
theorem zero_u32 {a : UInt32} {b : Bool} (h : (a == 0) = b) : ((a.toNat : Int) == 0) = b := by
  rw [← h, Bool.eq_iff_iff, beq_iff_eq, beq_iff_eq]
  exact ⟨fun e => UInt32.toNat_inj.1 (by show a.toNat = 0; omega), fun e => by rw [e]; rfl⟩
set_option maxHeartbeats 16000000 in
set_option maxRecDepth 100000 in
theorem walk_long (own give d1 d2 : UInt32) (want : Bool) (A : Option Addr) (n c : Nat) (w : World) (hn : ¬ n ≤ 200) :
    Calls Tryz.prog 3 #[.int .u32 own.toNat, .int .u32 give.toNat, .int .u32 d1.toNat, .int .u32 d2.toNat, .bool want, .slice A n c] w fun e w' => e = .returned (.bool true) ∧ Below w.heap.size w w' := by
  have h1 : (200 : Int) < (n : Int) := by omega
  go_enter Tryz.func3, Tryz.ntmps3
  go_wp2_with fail
  refine (Neg.alive_any _).mono ?_
  rintro e w1 ⟨rfl, hb⟩
  have HB := Lib.hid hb
  clear hb
  go_wp2
  go_ret
  exact ⟨rfl, HB.out⟩

set_option maxHeartbeats 16000000 in
set_option maxRecDepth 100000 in
theorem walk_own (own give d1 d2 : UInt32) (want : Bool) (A : Option Addr) (n c : Nat) (w : World) (hn : n ≤ 200) (ho : own = 0) :
    Calls Tryz.prog 3 #[.int .u32 own.toNat, .int .u32 give.toNat, .int .u32 d1.toNat, .int .u32 d2.toNat, .bool want, .slice A n c] w fun e w' => e = .returned (.bool true) ∧ Below w.heap.size w w' := by
  have h1 : ¬ (200 : Int) < (n : Int) := by omega
  have h2 : ((own.toNat : Int) == 0) = true := zero_u32 (by rw [ho]; rfl)
  clear ho
  go_enter Tryz.func3, Tryz.ntmps3
  go_wp2_with fail
  refine (Neg.alive_any _).mono ?_
  rintro e w1 ⟨rfl, hb⟩
  have HB := Lib.hid hb
  clear hb
  go_wp2
  go_ret
  exact ⟨rfl, HB.out⟩

set_option maxHeartbeats 16000000 in
set_option maxRecDepth 100000 in
theorem walk_give (own give d1 d2 : UInt32) (want : Bool) (A : Option Addr) (n c : Nat) (w : World) (hn : n ≤ 200) (ho : own ≠ 0) (hg : give = 0) :
    Calls Tryz.prog 3 #[.int .u32 own.toNat, .int .u32 give.toNat, .int .u32 d1.toNat, .int .u32 d2.toNat, .bool want, .slice A n c] w fun e w' => e = .returned (.bool true) ∧ Below w.heap.size w w' := by
  have h1 : ¬ (200 : Int) < (n : Int) := by omega
  have h2 : ((own.toNat : Int) == 0) = false := zero_u32 (by rw [beq_eq_false_iff_ne]; exact ho)
  have h3 : ((give.toNat : Int) == 0) = true := zero_u32 (by rw [hg]; rfl)
  clear ho hg
  go_enter Tryz.func3, Tryz.ntmps3
  go_wp2_with fail
  refine (Neg.alive_any _).mono ?_
  rintro e w1 ⟨rfl, hb⟩
  have HB := Lib.hid hb
  clear hb
  go_wp2
  go_ret
  exact ⟨rfl, HB.out⟩

set_option maxHeartbeats 16000000 in
set_option maxRecDepth 100000 in
theorem walk_all (own give d1 d2 : UInt32) (want : Bool) (A : Option Addr) (n c : Nat) (w : World) (hn : n ≤ 200) (hI : Ints w w.heap.size A n .u8) (ho : own ≠ 0) (hg : give ≠ 0) :
    Calls Tryz.prog 3 #[.int .u32 own.toNat, .int .u32 give.toNat, .int .u32 d1.toNat, .int .u32 d2.toNat, .bool want, .slice A n c] w fun e w' => e = .returned (.bool true) ∧ Below w.heap.size w w' := by
  have g1 : ¬ (200 : Int) < (n : Int) := by omega
  have g2 : ((own.toNat : Int) == 0) = false := zero_u32 (by rw [beq_eq_false_iff_ne]; exact ho)
  have g3 : ((give.toNat : Int) == 0) = false := zero_u32 (by rw [beq_eq_false_iff_ne]; exact hg)
  have A0 := Lib.hid Neg.auto_any
  have N1 : Hid (∀ w, Calls Tryz.prog 5 #[.agg #[.int .i64 3, .int .i64 10, .int .i64 2], .agg #[Value.int .u32 own.toNat, .int .u32 give.toNat, .int .u32 d1.toNat, .int .u32 d2.toNat, .bool false, .int .i64 5]] w (NewQ ipK (jS (Ipp.newP (Ipp.ca own give d1 d2)) 0) w)) := fun w => ipcp_ok 3 10 2 (Ipp.ca own give d1 d2) w may3 rfl
  have N2 : Hid (∀ w, Calls Tryz.prog 5 #[.agg #[.int .i64 3, .int .i64 10, .int .i64 2], .agg #[Value.int .u32 0, .int .u32 0, .int .u32 0, .int .u32 0, .bool want, .int .i64 5]] w (NewQ ipK (jS (Ipp.newP (Ipp.cb want)) 0) w)) := fun w => ipcp_ok 3 10 2 (Ipp.cb want) w may3 rfl
  obtain ⟨T, t1, t2, t3, t4, p, q, np, nq, sxp, sxq, m1, m2, m3, m4⟩ := ip_net own give d1 d2 want ho hg (jS (Ipp.newP (Ipp.ca own give d1 d2)) 2) (jS (Ipp.newP (Ipp.cb want)) 2) (j_sx _ (pa_ok own give d1 d2)) (j_sx _ (pb_ok want))
  obtain ⟨h1, v1, h2, v2, hM⟩ : ∃ h1 v1 h2 v2, Ipp.u2 give want d1 d2 = ⟨true, give, h1, v1, h2, v2⟩ := ⟨_, _, _, _, rfl⟩
  obtain ⟨f1, z1, f2, z2, hO⟩ : ∃ f1 z1 f2 z2, (⟨true, own, false, 0, false, 0⟩ : Ipc.Ipc) = ⟨true, own, f1, z1, f2, z2⟩ := ⟨_, _, _, _, rfl⟩
  rw [hO] at m1 m2
  rw [hM] at m3 m4
  have hQm := m4
  have hPp := m3
  have hPm := m1
  have hQp := m2
  have Qm : Hid (∀ w b, Ipp.PAt w b q → Calls Tryz.prog 10 #[.pointer (some ⟨b, 0, none⟩)] w fun e w' => e = .returned (.agg #[Value.bool true, .int .u32 give.toNat, .bool h1, .int .u32 v1.toNat, .bool h2, .int .u32 v2.toNat]) ∧ Below w.heap.size w w') := fun w b h => by
    have h9 := Ipp.mine_any b q w h
    unfold Ipp.BetQ at h9
    rw [hQm] at h9
    exact h9
  have Pp : Hid (∀ w b, Ipp.PAt w b p → Calls Tryz.prog 11 #[.pointer (some ⟨b, 0, none⟩)] w fun e w' => e = .returned (.agg #[Value.bool true, .int .u32 give.toNat, .bool h1, .int .u32 v1.toNat, .bool h2, .int .u32 v2.toNat]) ∧ Below w.heap.size w w') := fun w b h => by
    have h9 := Ipp.peer_any b p w h
    unfold Ipp.BetQ at h9
    rw [hPp] at h9
    exact h9
  have Pm : Hid (∀ w b, Ipp.PAt w b p → Calls Tryz.prog 10 #[.pointer (some ⟨b, 0, none⟩)] w fun e w' => e = .returned (.agg #[Value.bool true, .int .u32 own.toNat, .bool f1, .int .u32 z1.toNat, .bool f2, .int .u32 z2.toNat]) ∧ Below w.heap.size w w') := fun w b h => by
    have h9 := Ipp.mine_any b p w h
    unfold Ipp.BetQ at h9
    rw [hPm] at h9
    exact h9
  have Qp : Hid (∀ w b, Ipp.PAt w b q → Calls Tryz.prog 11 #[.pointer (some ⟨b, 0, none⟩)] w fun e w' => e = .returned (.agg #[Value.bool true, .int .u32 own.toNat, .bool f1, .int .u32 z1.toNat, .bool f2, .int .u32 z2.toNat]) ∧ Below w.heap.size w w') := fun w b h => by
    have h9 := Ipp.peer_any b q w h
    unfold Ipp.BetQ at h9
    rw [hQp] at h9
    exact h9

  have HJ := Lib.hid (fun (w W : World) (x y : Ad) h1 h2 h3 h4 h5 => join_any (Ipp.newP (Ipp.ca own give d1 d2)) (Ipp.newP (Ipp.cb want)) (pa_ok own give d1 d2) (pb_ok want) (fun _ => rfl) (fun _ => rfl) (w := w) (W := W) x y h1 h2 h3 h4 h5)
  have HRn : Hid (∀ (W : World) (gw : Nat) (x y : Ad) (vA vB : Value), Wi ipK w W gw x y (jS (Ipp.newP (Ipp.ca own give d1 d2)) 2) (jS (Ipp.newP (Ipp.cb want)) 2) vA vB (jT (Ipp.newP (Ipp.cb want)) 2) (jT (Ipp.newP (Ipp.ca own give d1 d2)) 2) 0 →
      Calls Tryz.prog 8 #[.pointer (some ⟨gw, 0, none⟩), .slice A n c, .int .i64 16] W fun e w' => e = .returned (.bool true) ∧ ∃ vA vB s, Wi ipK w w' gw x y (T.SA T.N) (T.SB T.N) vA vB [] [] s) := fun W gw x y vA vB h => by
    rw [j_rq, j_rq, ← t3, ← t4, ← t1, ← t2] at h
    exact run_any T A n c W h hI hn sxp.hst sxq.hst
  have HSp : Hid (∀ W g a q, SAt ipK W g a q (T.SA T.N) → Calls Tryz.prog 9 #[.pointer (some ⟨g, 0, none⟩)] W fun e w' => ∃ b, e = .returned (.pointer (some ⟨b, 0, none⟩)) ∧ Ipp.PAt w' b p ∧ Below W.heap.size W w') := fun W g a q h => by
    have h9 := side_ipcp g a q _ W h
    rw [sxp.hp] at h9
    exact h9
  have HSq : Hid (∀ W g a r, SAt ipK W g a r (T.SB T.N) → Calls Tryz.prog 9 #[.pointer (some ⟨g, 0, none⟩)] W fun e w' => ∃ b, e = .returned (.pointer (some ⟨b, 0, none⟩)) ∧ Ipp.PAt w' b q ∧ Below W.heap.size W w') := fun W g a r h => by
    have h9 := side_ipcp g a r _ W h
    rw [sxq.hp] at h9
    exact h9
  have E1 : ∀ W, (binOp .eql 40 (.agg #[Value.bool true, .int .u32 give.toNat, .bool h1, .int .u32 v1.toNat, .bool h2, .int .u32 v2.toNat]) (.agg #[Value.bool true, .int .u32 give.toNat, .bool h1, .int .u32 v1.toNat, .bool h2, .int .u32 v2.toNat])).run Tryz.prog W = .ok (.bool true) W := fun W => Ipc.ipc_eql (x := ⟨true, give, h1, v1, h2, v2⟩) (y := ⟨true, give, h1, v1, h2, v2⟩) (decide_eq_true rfl) W
  have E2 : ∀ W, (binOp .eql 40 (.agg #[Value.bool true, .int .u32 own.toNat, .bool f1, .int .u32 z1.toNat, .bool f2, .int .u32 z2.toNat]) (.agg #[Value.bool true, .int .u32 own.toNat, .bool f1, .int .u32 z1.toNat, .bool f2, .int .u32 z2.toNat])).run Tryz.prog W = .ok (.bool true) W := fun W => Ipc.ipc_eql (x := ⟨true, own, f1, z1, f2, z2⟩) (y := ⟨true, own, f1, z1, f2, z2⟩) (decide_eq_true rfl) W
  have E5 : ∀ W : World, (Instr.field 40 (.agg #[Value.bool true, .int .u32 give.toNat, .bool h1, .int .u32 v1.toNat, .bool h2, .int .u32 v2.toNat]) 1).run Tryz.prog W = .ok (.int .u32 give.toNat) W := fun W => by kernel_rfl
  have E6 : ∀ W : World, (Instr.field 40 (.agg #[Value.bool true, .int .u32 own.toNat, .bool f1, .int .u32 z1.toNat, .bool f2, .int .u32 z2.toNat]) 1).run Tryz.prog W = .ok (.int .u32 own.toNat) W := fun W => by kernel_rfl
  have E3 : ((give.toNat : Int) == give.toNat) = true := by simp
  have E4 : ((own.toNat : Int) == own.toNat) = true := by simp
  clear t1 t2 t3 t4 sxp sxq m1 m2 m3 m4 hM hO hQm hPp hPm hQp ho hg hn hI
  go_enter Tryz.func3, Tryz.ntmps3
  go_wp2_with fail
  refine (A0.out _).mono ?_
  rintro e w1 ⟨rfl, hb⟩
  have H1 := Lib.hid hb
  clear hb
  go_wp2_with fail
  refine (N1.out _).mono ?_
  rintro e w2 ⟨ga, aa, qa, rfl, l1, l2, l3, hs, hb⟩
  have L1 : Hid (∀ k, Mn ⟨ga, aa, qa⟩ k → w.heap.size ≤ k ∧ k < w2.heap.size) := fun k hk => by
    have h9 := hs.old k hk
    have h8 := H1.out.size
    rcases hk with rfl | rfl | rfl
    · exact ⟨Nat.le_trans h8 l1, h9⟩
    · exact ⟨Nat.le_trans h8 l2, h9⟩
    · exact ⟨Nat.le_trans h8 l3, h9⟩
  have HS2 := Lib.hid hs
  have H2 := Lib.hid (H1.out.trans (hb.mono H1.out.size))
  clear hs hb l1 l2 l3 H1
  go_wp2_with fail
  refine (A0.out _).mono ?_
  rintro e w3 ⟨rfl, hb⟩
  have HS3 := Lib.hid (HS2.out.callee hb)
  have L2 := Lib.hid hb.size
  have H3 := Lib.hid (H2.out.trans (hb.mono H2.out.size))
  clear hb H2 HS2
  go_wp2_with fail
  refine (N2.out _).mono ?_
  rintro e w4 ⟨gb, ab, qb, rfl, l1, l2, l3, hs, hb⟩
  have HD : Hid (∀ k, Mn ⟨ga, aa, qa⟩ k → ¬ Mn ⟨gb, ab, qb⟩ k) := fun k hk hk' => by
    have h9 := (L1.out k hk).2
    have h8 := L2.out
    rcases hk' with e | e | e
    · have h7 : w3.heap.size ≤ gb := l1
      have e' : k = gb := e
      omega
    · have h7 : w3.heap.size ≤ ab := l2
      have e' : k = ab := e
      omega
    · have h7 : w3.heap.size ≤ qb := l3
      have e' : k = qb := e
      omega
  have HLo : Hid (∀ k, Mn ⟨ga, aa, qa⟩ k ∨ Mn ⟨gb, ab, qb⟩ k → w.heap.size ≤ k) := fun k hk => by
    have h8 := H3.out.size
    rcases hk with hk | hk
    · exact (L1.out k hk).1
    · rcases hk with rfl | rfl | rfl
      · exact Nat.le_trans h8 l1
      · exact Nat.le_trans h8 l2
      · exact Nat.le_trans h8 l3
  have HS4 := Lib.hid (HS3.out.callee hb)
  have HT4 := Lib.hid hs
  have H4 := Lib.hid (H3.out.trans (hb.mono H3.out.size))
  clear hs hb l1 l2 l3 H3 HS3 L1 L2 A0 N1 N2
  go_wp2_with fail
  refine (HJ.out w _ ⟨ga, aa, qa⟩ ⟨gb, ab, qb⟩ HS4.out HT4.out HD.out HLo.out H4.out).mono ?_
  rintro e w5 ⟨gw, vA, vB, rfl, hw⟩
  have HW5 := Lib.hid hw
  clear hw HJ HS4 HT4 HD HLo H4
  go_wp2_with fail
  refine (HRn.out _ gw _ _ vA vB HW5.out).mono ?_
  rintro e w6 ⟨rfl, vA', vB', s', hw⟩
  have HW6 := Lib.hid hw
  clear hw HW5 HRn
  go_wp2_with fail
  refine (HSp.out _ _ _ _ HW6.out.sa).mono ?_
  rintro e w7 ⟨bx, rfl, hp, hb⟩
  have HW7 := Lib.hid (HW6.out.callee hb)
  have HP7 := Lib.hid hp
  clear hp hb HW6 HSp
  go_wp2_with fail
  refine (HSq.out _ _ _ _ HW7.out.sb).mono ?_
  rintro e w8 ⟨by8, rfl, hq, hb⟩
  have HP8 := Lib.hid (HP7.out.callee hb)
  have HQ8 := Lib.hid hq
  have H8 := Lib.hid (HW7.out.callee hb).hb
  clear hq hb HW7 HP7 HSq
  go_wp2_with fail
  refine (Qm.out _ _ HQ8.out).mono ?_
  rintro e w9 ⟨rfl, hb⟩
  have HP9 := Lib.hid (HP8.out.callee hb)
  have HQ9 := Lib.hid (HQ8.out.callee hb)
  have H9 := Lib.hid (H8.out.trans (hb.mono H8.out.size))
  clear hb HP8 HQ8 H8
  go_wp2_with fail
  refine (Pp.out _ _ HP9.out).mono ?_
  rintro e w10 ⟨rfl, hb⟩
  have HP10 := Lib.hid (HP9.out.callee hb)
  have HQ10 := Lib.hid (HQ9.out.callee hb)
  have H10 := Lib.hid (H9.out.trans (hb.mono H9.out.size))
  clear hb HP9 HQ9 H9
  go_wp2_with fail
  refine (Pm.out _ _ HP10.out).mono ?_
  rintro e w11 ⟨rfl, hb⟩
  have HP11 := Lib.hid (HP10.out.callee hb)
  have HQ11 := Lib.hid (HQ10.out.callee hb)
  have H11 := Lib.hid (H10.out.trans (hb.mono H10.out.size))
  clear hb HP10 HQ10 H10
  go_wp2_with fail
  refine (Qp.out _ _ HQ11.out).mono ?_
  rintro e w12 ⟨rfl, hb⟩
  have HP12 := Lib.hid (HP11.out.callee hb)
  have HQ12 := Lib.hid (HQ11.out.callee hb)
  have H12 := Lib.hid (H11.out.trans (hb.mono H11.out.size))
  clear hb HP11 HQ11 H11
  go_wp2_with fail
  refine (Qm.out _ _ HQ12.out).mono ?_
  rintro e w13 ⟨rfl, hb⟩
  have HP13 := Lib.hid (HP12.out.callee hb)
  have HQ13 := Lib.hid (HQ12.out.callee hb)
  have H13 := Lib.hid (H12.out.trans (hb.mono H12.out.size))
  clear hb HP12 HQ12 H12
  go_wp2_with fail
  refine (Pm.out _ _ HP13.out).mono ?_
  rintro e w14 ⟨rfl, hb⟩
  have HP14 := Lib.hid (HP13.out.callee hb)
  have HQ14 := Lib.hid (HQ13.out.callee hb)
  have H14 := Lib.hid (H13.out.trans (hb.mono H13.out.size))
  clear hb HP13 HQ13 H13
  go_wp2_with fail
  refine (Neg.alive_any _).mono ?_
  rintro e w15 ⟨rfl, hb⟩
  have H15 := Lib.hid (H14.out.trans (hb.mono H14.out.size))
  clear hb
  go_wp2
  go_ret
  exact ⟨rfl, H15.out⟩

theorem walk (own give d1 d2 : UInt32) (want : Bool) (A : Option Addr) (n c : Nat) (w : World) (hI : Ints w w.heap.size A n .u8) :
    Calls Tryz.prog 3 #[.int .u32 own.toNat, .int .u32 give.toNat, .int .u32 d1.toNat, .int .u32 d2.toNat, .bool want, .slice A n c] w fun e w' => e = .returned (.bool true) ∧ Below w.heap.size w w' := by
  by_cases hn : n ≤ 200
  · by_cases ho : own = 0
    · exact walk_own own give d1 d2 want A n c w hn ho
    · by_cases hg : give = 0
      · exact walk_give own give d1 d2 want A n c w hn ho hg
      · exact walk_all own give d1 d2 want A n c w hn hI ho hg
  · exact walk_long own give d1 d2 want A n c w hn

set_option maxRecDepth 100000 in
theorem lifted (os : Os) (started : os.Started) (H : Type) (enc : TypeId × Value → H) :
    ReturnsInHanded {} Tryz.checked os 3 .any (Rows.negotAddrSpec.pre6 enc Tryz.prog Tryz.f3 Rows.negotAddrRow.domain false) (Rows.negotAddrSpec.post enc Tryz.prog Tryz.f3 false true false false) := by
  refine returnsInHanded_of_change (C := Tryz.checked) own started (by kernel_rfl) Tryz.func3
    (ChangeSpec.witness6 (enc := enc) (C := Tryz.checked) false ⟨#[], #[.int .u32 0, .int .u32 0, .int .u32 0, .int .u32 0, .bool false, .slice none 0 0], []⟩ 8 (by kernel_rfl) (by kernel_rfl) (by kernel_rfl) (by kernel_rfl)) ?_
  intro W base args ds gs before hval0 hW hcnd _
  have hval : ∀ (j : Nat) t v, Tryz.f3.params[j]? = some t → args[j]? = some v → Value.okWide Tryz.prog W .any base t v := hval0
  have hW' := hW
  obtain ⟨p, q, hA0, hV, rfl, hfz, hnd⟩ := hW
  have hlt := hW'.lt
  have hA : DataW.TrodAll enc Tryz.prog W 0 (fun _ => true) true Tryz.f3.params.toList args.toList ds p := hA0
  rw [Tryz.params3] at hA hval
  obtain ⟨v0, vs0, d0, ds0, p0, q0, hargs, rfl, rfl, h0, r0⟩ := trodAll_cons hA
  obtain ⟨v1, vs1, d1, ds1, p1, q1, rfl, rfl, rfl, h1, r1⟩ := trodAll_cons r0
  obtain ⟨v2, vs2, d2, ds2, p2, q2, rfl, rfl, rfl, h2, r2⟩ := trodAll_cons r1
  obtain ⟨v3, vs3, d3, ds3, p3, q3, rfl, rfl, rfl, h3, r3⟩ := trodAll_cons r2
  obtain ⟨v4, vs4, d4, ds4, p4, q4, rfl, rfl, rfl, h4, r4⟩ := trodAll_cons r3
  obtain ⟨v5, vs5, d5, ds5, p5, q5, rfl, rfl, rfl, h5, r5⟩ := trodAll_cons r4
  obtain ⟨rfl, rfl, rfl⟩ := trodAll_nil r5
  obtain rfl : args = #[v0, v1, v2, v3, v4, v5] := by cases args; simp_all
  obtain ⟨rfl, rfl⟩ := trodVars_none hV
  obtain ⟨z0, rfl, rfl, rfl, w0⟩ := open_int Tryz.underlying22 (hval 0 22 v0 rfl rfl) h0
  obtain ⟨a0, rfl⟩ := u32_of (z := z0) (bounds_u32 w0)
  obtain ⟨z1, rfl, rfl, rfl, w1⟩ := open_int Tryz.underlying22 (hval 1 22 v1 rfl rfl) h1
  obtain ⟨a1, rfl⟩ := u32_of (z := z1) (bounds_u32 w1)
  obtain ⟨z2, rfl, rfl, rfl, w2⟩ := open_int Tryz.underlying22 (hval 2 22 v2 rfl rfl) h2
  obtain ⟨a2, rfl⟩ := u32_of (z := z2) (bounds_u32 w2)
  obtain ⟨z3, rfl, rfl, rfl, w3⟩ := open_int Tryz.underlying22 (hval 3 22 v3 rfl rfl) h3
  obtain ⟨a3, rfl⟩ := u32_of (z := z3) (bounds_u32 w3)
  obtain ⟨a4, rfl, rfl, rfl⟩ := open_bool Tryz.underlying4 (hval 4 4 v4 rfl rfl) h4
  obtain ⟨A5, n5, c5, rfl, m5, hI5⟩ := ints_of Tryz.underlying23 Tryz.underlying5 (by kernel_rfl) (hval 5 23 v5 rfl rfl) h5
  clear hA0 hval0
  exact (walk a0 a1 a2 a3 a4 A5 n5 c5 W hI5).mono fun e W' ⟨he, hb⟩ => ⟨_, he, law_post (t := 4) laidOut (by kernel_rfl) rfl rfl Tryz.underlying4 ⟨rfl, rfl, rfl⟩ hW' hb⟩

theorem over : Rows.negotAddrRow.holds Tryz.pinned (OpenSpec.ofChange Rows.negotAddrSpec) :=
  OpenClaim.holds_of_wide 3 Tryz.f3 rfl rfl rfl rfl rfl rfl rfl ⟨rfl, rfl, rfl, rfl, rfl⟩ rfl rfl rfl rfl rfl (by kernel_rfl) Tryz.func3 (by kernel_rfl)
    (of_decide_eq_true (by kernel_rfl)) (by unfold Func.isWrapper; first | (rw [if_pos (by decide +kernel)]; kernel_rfl) | (rw [if_neg (by decide +kernel)]; exact ⟨rfl, rfl⟩))
    (fun os started H enc _ => lifted os started H enc)

theorem proved : Rows.NegotAddrSaid :=
  over
#print axioms proved
end Go.Proofs.YtgefodpnhifmdaaGreat.NegotAddr
