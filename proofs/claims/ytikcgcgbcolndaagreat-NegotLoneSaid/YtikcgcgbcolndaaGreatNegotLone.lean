/- PROVED: 'halyardlaw16.NegotLone' returns true for any two confs, and leaves them as they were. No condition. Written by gen/neg_lone.py. -/
import Derived.Test.YtikcgcgbcolndaaGreatG6
import Derived.Test.YtikcgcgbcolndaaGreatOptD
import Derived.Test.YtikcgcgbcolndaaGreatIppX
import Derived.Test.YtikcgcgbcolndaaGreatLaw
import Derived.Test.YtikcgcgbcolndaaGreatInt3
import Derived.Test.YtikcgcgbcolndaaGreatRows
namespace Go.Proofs.YtikcgcgbcolndaaGreat.NegotLone
open Go.ChangeShapes Go.WideShapes Go.ChangeAt Go.RowKit Go.Proofs.YtikcgcgbcolndaaGreat.Oct Go.Proofs.YtikcgcgbcolndaaGreat.Row Go.Proofs.YtikcgcgbcolndaaGreat.Fsm Go.Proofs.YtikcgcgbcolndaaGreat.Mem Go.Proofs.YtikcgcgbcolndaaGreat.Law Go.Proofs.YtikcgcgbcolndaaGreat.Opt Go.Proofs.YtikcgcgbcolndaaGreat.Ipp Go.Proofs.YtikcgcgbcolndaaGreat.Neg

set_option maxHeartbeats 16000000 in
set_option maxRecDepth 100000 in
theorem walk_skip (x y z : Int) (cf : Conf) (w : World) (h1 : 60 < x) (h2 : x ≤ 1000) :
    Calls Tryz.prog 6 #[.agg #[.int .i64 x, .int .i64 y, .int .i64 z], .agg #[Value.int .u32 cf.addr.toNat, .int .u32 cf.peer.toNat, .int .u32 cf.dns1.toNat, .int .u32 cf.dns2.toNat, .bool cf.want, .int .i64 cf.mn]] w fun e w' => e = .returned (.bool true) ∧ Below w.heap.size w w' := by
  obtain ⟨W, hW, HW⟩ := boxAC w x y z cf
  have HB := Lib.hid HW.out.2.2
  have HA := Lib.hid HW.out.1
  have HCf := Lib.hid HW.out.2.1
  have c0 : W.cell? ⟨w.heap.size, 0, none⟩ = some (.int .i64 x) := HA.out.at_ 0
  have c1 : W.cell? ⟨w.heap.size, 1, none⟩ = some (.int .i64 y) := HA.out.at_ 1
  have c2 : W.cell? ⟨w.heap.size, 2, none⟩ = some (.int .i64 z) := HA.out.at_ 2
  obtain ⟨k0, k1, k2, k3, k4, k5⟩ := HCf.out.all
  clear HW
  go_enter Tryz.func6, Tryz.ntmps6
  go_wp2_with fail
  refine (alive_any _).mono ?_
  rintro e w1 ⟨rfl, hb⟩
  have HE := Lib.hid (HB.out.trans (hb.mono HB.out.size))
  clear hb
  go_wp2
  go_ret
  exact ⟨rfl, HE.out⟩
set_option maxHeartbeats 16000000 in
set_option maxRecDepth 100000 in
theorem walk_no (x y z : Int) (cf : Conf) (w : World) (hx : ¬ (60 < x ∧ x ≤ 1000)) (hm : (Aut.may x y z && mayC cf) = false) :
    Calls Tryz.prog 6 #[.agg #[.int .i64 x, .int .i64 y, .int .i64 z], .agg #[Value.int .u32 cf.addr.toNat, .int .u32 cf.peer.toNat, .int .u32 cf.dns1.toNat, .int .u32 cf.dns2.toNat, .bool cf.want, .int .i64 cf.mn]] w fun e w' => e = .returned (.bool true) ∧ Below w.heap.size w w' := by
  obtain ⟨W, hW, HW⟩ := boxAC w x y z cf
  have HB := Lib.hid HW.out.2.2
  have HA := Lib.hid HW.out.1
  have HCf := Lib.hid HW.out.2.1
  have c0 : W.cell? ⟨w.heap.size, 0, none⟩ = some (.int .i64 x) := HA.out.at_ 0
  have c1 : W.cell? ⟨w.heap.size, 1, none⟩ = some (.int .i64 y) := HA.out.at_ 1
  have c2 : W.cell? ⟨w.heap.size, 2, none⟩ = some (.int .i64 z) := HA.out.at_ 2
  obtain ⟨k0, k1, k2, k3, k4, k5⟩ := HCf.out.all
  have N1 := Lib.hid (fun w => ipcp_no x y z cf w hm)
  obtain ⟨pv, er, N2⟩ : ∃ (pv : Value) (er : Nat), Hid (∀ w, Calls Tryz.prog 27 #[.agg #[Value.int .u32 cf.addr.toNat, .int .u32 cf.peer.toNat, .int .u32 cf.dns1.toNat, .int .u32 cf.dns2.toNat, .bool cf.want, .int .i64 cf.mn]] w fun e w' => e = .returned (.tuple #[pv, .int .i64 2]) ∧ Below w.heap.size w w') ∨ Hid (∀ w, Calls Tryz.prog 27 #[.agg #[Value.int .u32 cf.addr.toNat, .int .u32 cf.peer.toNat, .int .u32 cf.dns1.toNat, .int .u32 cf.dns2.toNat, .bool cf.want, .int .i64 cf.mn]] w fun e w' => ∃ g, e = .returned (.tuple #[.pointer (some ⟨g, 0, none⟩), .int .i64 0]) ∧ Below w.heap.size w w') := by
    cases hc : mayC cf
    · exact ⟨.pointer none, 2, .inl fun w => new_no cf w hc⟩
    · exact ⟨.pointer none, 0, .inr fun w => (new_ok cf w hc).mono fun e w' ⟨g, h1, _, _, h4⟩ => ⟨g, h1, h4⟩⟩
  clear HW hm
  have hx2 : x ≤ 60 ∨ (60 < x ∧ 1000 < x) := by omega
  clear hx
  rcases hx2 with h1 | ⟨h1, h2⟩
  all_goals rcases N2 with N2 | N2
  · go_enter Tryz.func6, Tryz.ntmps6
    go_wp2_with fail
    refine (N1.out _).mono ?_
    rintro e w1 ⟨rfl, hb1⟩
    have HB1 := Lib.hid (HB.out.trans (hb1.mono HB.out.size))
    obtain ⟨k0, k1, k2, k3, k4, k5⟩ := (HCf.out.callee hb1).all
    have m0 : w1.cell? ⟨w.heap.size, 0, none⟩ = some (.int .i64 x) := (HA.out.callee hb1).at_ 0
    clear hb1 c0 c1 c2 hW
    go_wp2_with fail
    refine (N2.out _).mono ?_
    rintro e w2 ⟨rfl, hb2⟩
    have HB2 := Lib.hid (HB1.out.trans (hb2.mono HB1.out.size))
    clear hb2 k0 k1 k2 k3 k4 k5 m0
    go_wp2_with fail
    refine (alive_any _).mono ?_
    rintro e w3 ⟨rfl, hb3⟩
    have HB3 := Lib.hid (HB2.out.trans (hb3.mono HB2.out.size))
    clear hb3
    go_wp2
    go_ret
    exact ⟨rfl, HB3.out⟩
  · go_enter Tryz.func6, Tryz.ntmps6
    go_wp2_with fail
    refine (N1.out _).mono ?_
    rintro e w1 ⟨rfl, hb1⟩
    have HB1 := Lib.hid (HB.out.trans (hb1.mono HB.out.size))
    obtain ⟨k0, k1, k2, k3, k4, k5⟩ := (HCf.out.callee hb1).all
    have m0 : w1.cell? ⟨w.heap.size, 0, none⟩ = some (.int .i64 x) := (HA.out.callee hb1).at_ 0
    clear hb1 c0 c1 c2 hW
    go_wp2_with fail
    refine (N2.out _).mono ?_
    rintro e w2 ⟨gq, rfl, hb2⟩
    have HB2 := Lib.hid (HB1.out.trans (hb2.mono HB1.out.size))
    clear hb2 k0 k1 k2 k3 k4 k5 m0
    go_wp2_with fail
    refine (alive_any _).mono ?_
    rintro e w3 ⟨rfl, hb3⟩
    have HB3 := Lib.hid (HB2.out.trans (hb3.mono HB2.out.size))
    clear hb3
    go_wp2
    go_ret
    exact ⟨rfl, HB3.out⟩
  · go_enter Tryz.func6, Tryz.ntmps6
    go_wp2_with fail
    refine (N1.out _).mono ?_
    rintro e w1 ⟨rfl, hb1⟩
    have HB1 := Lib.hid (HB.out.trans (hb1.mono HB.out.size))
    obtain ⟨k0, k1, k2, k3, k4, k5⟩ := (HCf.out.callee hb1).all
    have m0 : w1.cell? ⟨w.heap.size, 0, none⟩ = some (.int .i64 x) := (HA.out.callee hb1).at_ 0
    clear hb1 c0 c1 c2 hW
    go_wp2_with fail
    refine (N2.out _).mono ?_
    rintro e w2 ⟨rfl, hb2⟩
    have HB2 := Lib.hid (HB1.out.trans (hb2.mono HB1.out.size))
    clear hb2 k0 k1 k2 k3 k4 k5 m0
    go_wp2_with fail
    refine (alive_any _).mono ?_
    rintro e w3 ⟨rfl, hb3⟩
    have HB3 := Lib.hid (HB2.out.trans (hb3.mono HB2.out.size))
    clear hb3
    go_wp2
    go_ret
    exact ⟨rfl, HB3.out⟩
  · go_enter Tryz.func6, Tryz.ntmps6
    go_wp2_with fail
    refine (N1.out _).mono ?_
    rintro e w1 ⟨rfl, hb1⟩
    have HB1 := Lib.hid (HB.out.trans (hb1.mono HB.out.size))
    obtain ⟨k0, k1, k2, k3, k4, k5⟩ := (HCf.out.callee hb1).all
    have m0 : w1.cell? ⟨w.heap.size, 0, none⟩ = some (.int .i64 x) := (HA.out.callee hb1).at_ 0
    clear hb1 c0 c1 c2 hW
    go_wp2_with fail
    refine (N2.out _).mono ?_
    rintro e w2 ⟨gq, rfl, hb2⟩
    have HB2 := Lib.hid (HB1.out.trans (hb2.mono HB1.out.size))
    clear hb2 k0 k1 k2 k3 k4 k5 m0
    go_wp2_with fail
    refine (alive_any _).mono ?_
    rintro e w3 ⟨rfl, hb3⟩
    have HB3 := Lib.hid (HB2.out.trans (hb3.mono HB2.out.size))
    clear hb3
    go_wp2
    go_ret
    exact ⟨rfl, HB3.out⟩
set_option maxHeartbeats 16000000 in
set_option maxRecDepth 100000 in
theorem walk_yes (r mc mt : Nat) (cf : Conf) (w : World) (h60 : r ≤ 60) (hm : Aut.may r mc mt = true) (hc : mayC cf = true) :
    Calls Tryz.prog 6 #[.agg #[.int .i64 r, .int .i64 mc, .int .i64 mt], .agg #[Value.int .u32 cf.addr.toNat, .int .u32 cf.peer.toNat, .int .u32 cf.dns1.toNat, .int .u32 cf.dns2.toNat, .bool cf.want, .int .i64 cf.mn]] w fun e w' => e = .returned (.bool true) ∧ Below w.heap.size w w' := by
  obtain ⟨W, hW, HW⟩ := boxAC w r mc mt cf
  have HB := Lib.hid HW.out.2.2
  have HA := Lib.hid HW.out.1
  have HCf := Lib.hid HW.out.2.1
  have c0 : W.cell? ⟨w.heap.size, 0, none⟩ = some (.int .i64 r) := HA.out.at_ 0
  have c1 : W.cell? ⟨w.heap.size, 1, none⟩ = some (.int .i64 mc) := HA.out.at_ 1
  have c2 : W.cell? ⟨w.heap.size, 2, none⟩ = some (.int .i64 mt) := HA.out.at_ 2
  obtain ⟨k0, k1, k2, k3, k4, k5⟩ := HCf.out.all
  have N1 := Lib.hid (fun w => ipcp_ok r mc mt cf w hm hc)
  have N2 := Lib.hid (fun w => new_ok cf w hc)
  have HM := Lib.hid hm
  have hpo : ipK.ok (newP cf) := by
    show Ipc.may (newP cf).w = true
    simp [Ipc.may, newP, wish]
  have HP := Lib.hid hpo
  have hr60 : (r : Int) ≤ 60 := by omega
  have EO : Hid (∀ g a q w, SAt ipK w g a q (newSd ipK r mc mt (newP cf)) → Calls Tryz.prog 22 #[.pointer (some ⟨g, 0, none⟩), .int .u8 2, .int .u32 1] w (OccQ ipK g a q ({ newSd ipK r mc mt (newP cf) with x := x1 r mc mt } : Sd ipK) [] (told 4) 0 w)) := fun g a q w h => by
    have h1 := event_ok ipK g a q (newSd ipK r mc mt (newP cf)) 2 1 w h (new_ok' hm hpo) (by decide) (open_x r mc mt).2.1 (by rw [show (newSd ipK r mc mt (newP cf)).x = x0 r mc mt from rfl, (open_x r mc mt).1]; decide)
    rw [show (newSd ipK r mc mt (newP cf)).x = x0 r mc mt from rfl, (open_x r mc mt).1, open_s ipK r mc mt (newP cf) 1] at h1
    exact h1
  have EU : Hid (∀ g a q w, SAt ipK w g a q ({ newSd ipK r mc mt (newP cf) with x := x1 r mc mt } : Sd ipK) → Calls Tryz.prog 22 #[.pointer (some ⟨g, 0, none⟩), .int .u8 0, .int .u32 1] w (OccQ ipK g a q (s6 ipK r mc mt (mc - 1) r 1 (newP cf)) (rqs (reqD ipK (newP cf)) 1) (told 80) 0 w)) := fun g a q w h => by
    have h1 := event_ok ipK g a q ({ newSd ipK r mc mt (newP cf) with x := x1 r mc mt } : Sd ipK) 0 1 w h (new1_ok hm hpo) (by decide) (up_x r mc mt).2.1 (by rw [show ({ newSd ipK r mc mt (newP cf) with x := x1 r mc mt } : Sd ipK).x = x1 r mc mt from rfl, (up_x r mc mt).1]; decide)
    rw [show ({ newSd ipK r mc mt (newP cf) with x := x1 r mc mt } : Sd ipK).x = x1 r mc mt from rfl, (up_x r mc mt).1, up_s ipK r mc mt (newP cf) 1, show ipK.renew (newP cf) 1 = newP cf from rfl] at h1
    exact h1
  clear HW hm hc hpo
  go_enter Tryz.func6, Tryz.ntmps6
  go_wp2_with fail
  refine (N1.out _).mono ?_
  rintro e w1 ⟨g, a, q, rfl, hg, ha, hq, hs, hb1⟩
  have C1 := Lib.hid hs
  have HB1 := Lib.hid (HB.out.trans (hb1.mono HB.out.size))
  have hWs : W.heap.size = w.heap.size + 2 := by rw [← hW, World.size_alloc, World.size_alloc]
  have HMy : Hid (∀ j, My g a q j → w.heap.size + 2 ≤ j) := by
    rintro k (rfl | rfl | rfl) <;> omega
  have HA1 := Lib.hid (HA.out.callee hb1)
  obtain ⟨k0, k1, k2, k3, k4, k5⟩ := (HCf.out.callee hb1).all
  clear hg ha hq hs hb1 hWs hW c0 c1 c2 HB HA HCf N1
  go_wp2_with fail
  refine (N2.out _).mono ?_
  rintro e w2 ⟨b, rfl, hgb, hp, hb2⟩
  have C2 := Lib.hid (C1.out.callee hb2)
  have HB2 := Lib.hid (HB1.out.trans (hb2.mono HB1.out.size))
  have HA2 := Lib.hid (HA1.out.callee hb2)
  have HRq := Lib.hid (request_any b (newP cf) w2 hp HP.out)
  clear hgb hp hb2 C1 HB1 HA1 k0 k1 k2 k3 k4 k5 N2
  go_wp2_with fail
  refine HRq.out.mono ?_
  rintro e w3 ⟨A3, c3, rfl, hO, _, hb3⟩
  have C3 := Lib.hid (C2.out.callee hb3)
  have HB3 := Lib.hid (HB2.out.trans (hb3.mono HB2.out.size))
  have HA3 := Lib.hid (HA2.out.callee hb3)
  have HP3 := Lib.hid (Opt.rput_any (req (newP cf)) _ A3 _ c3 w3 hO (ipK.rq (newP cf) HP.out).2 (Nat.le_refl _))
  have HE3 : Hid (bOf (pA (req (newP cf))) = reqD ipK (newP cf) ∧ pE (req (newP cf)) = 0) := ⟨congrArg bOf (put_yes (l := req (newP cf)) (ipK.rq (newP cf) HP.out).1), (ipK.rq (newP cf) HP.out).1⟩
  rw [HE3.out.1, HE3.out.2] at HP3
  clear hO hb3 C2 HB2 HA2 HRq HE3
  obtain ⟨D, hD⟩ : ∃ D, reqD ipK (newP cf) = D := ⟨_, rfl⟩
  have HD := Lib.hid hD
  rw [hD] at EU HP3
  clear hD
  go_wp2_with fail
  refine HP3.out.mono ?_
  rintro e w4 ⟨rfl, hb4⟩
  have C4 := Lib.hid (C3.out.callee hb4)
  have HB4 := Lib.hid (HB3.out.trans (hb4.mono HB3.out.size))
  have HA4 := Lib.hid (HA3.out.callee hb4)
  clear hb4 C3 HB3 HA3 HP3
  go_wp2_with fail
  refine (EO.out g a q _ C4.out).mono ?_
  rintro e w5 ⟨R0, rc0, rfl, _, hs, hm⟩
  have C5 := Lib.hid hs
  have HB5 := Lib.hid (HB4.out.trans (hm.below HB4.out.size fun k hk => by have := HMy.out k hk; omega))
  have HA5 := Lib.hid (HA4.out.moves hm fun e => by have := HMy.out _ e; omega)
  clear hs hm C4 HB4 HA4 EO
  go_wp2_with fail
  refine (EU.out g a q _ C5.out).mono ?_
  rintro e w6 ⟨R1, rc1, he, hr, hs, hm⟩
  rw [show (rqs D 1).length = 1 from rqs_len D 1] at he hr
  rw [show told 80 = 0 from rfl] at he
  subst he
  have HT : Hid (Ty w w6 g a q r mc mt 0 1 (newP cf) (.slice R1 1 rc1)) :=
    ⟨⟨_, run_start HM.out, hs⟩, HB5.out.trans (hm.below HB5.out.size fun k hk => by have := HMy.out k hk; omega), HMy.out, by
      rw [HD.out]
      exact own_mono hr (by have := C5.out.old g (.inl rfl); have := HMy.out g (.inl rfl); omega), fun j hj e => by
      have h1 := (hr.lt j hj).1
      have := C5.out.old j e
      omega, HA5.out.moves hm fun e => by have := HMy.out _ e; omega⟩
  clear hr hs hm C5 HB5 HA5 EU
  have HT7 := Lib.hid (HT.out.callee ((Below.refl _ _).alloc (Nat.le_refl _) (.cells #[.slice R1 1 rc1, .int .u16 0, .int .u16 0, .bool false] 59)))
  clear HT
  obtain ⟨N, hN⟩ : ∃ N, r * (mc + 1) = N := ⟨_, rfl⟩
  have hNi : (r : Int) * ((mc : Int) + 1) = (N : Int) := by rw [← hN]; push_cast; rfl
  have hN2 : N ≤ 1260 := by
    rw [← hN]
    have h1 := (may_of HM.out).2.2.2.1
    exact Nat.mul_le_mul (show r ≤ 60 by omega) (show mc + 1 ≤ 21 by omega)
  have hmc : mc ≤ 20 := (may_of HM.out).2.2.2.1
  have hmc0 : (0 : Int) ≤ (mc : Int) := Int.natCast_nonneg _
  have HN := Lib.hid hN
  clear hN
  obtain ⟨i0, hi, hz0, hz1, hz2⟩ := info_parts Tryz.info56
  go_wp2_with fail
  go_loopw [13, 14] (fun v i wr => ∃ (k n : Nat) (R : Option Addr) (rc : Nat), k ≤ N ∧ i = .int .i64 k ∧ v = .slice R n rc ∧ Hid (Ty w wr g a q r mc mt k n (newP cf) (.slice R n rc))) (fun _ i _ => N - (intOf i).toNat)
  case atStart => exact ⟨0, 1, R1, rc1, Nat.zero_le _, rfl, rfl, HT7⟩
  case round =>
    obtain ⟨k, n, R, rc, hk, rfl, rfl, HF⟩ := hrel
    have m0 : wr.cell? ⟨w.heap.size, 0, none⟩ = some (.int .i64 r) := HF.out.conf.at_ 0
    have m1 : wr.cell? ⟨w.heap.size, 1, none⟩ = some (.int .i64 mc) := HF.out.conf.at_ 1
    have m2 : wr.cell? ⟨w.heap.size, 2, none⟩ = some (.int .i64 mt) := HF.out.conf.at_ 2
    by_cases hlt : k < N
    · obtain ⟨x, hrun, hx⟩ := HF.out.x
      obtain ⟨x', l, h1, h2, h3, h4, h5, h6, h7⟩ := run_step HM.out HP.out hrun
      have HTk := Lib.hid (side_tick ipK g a q x 1 wr hx h7 h6)
      rw [h1] at HTk
      have HX' := Lib.hid h2
      have HQ := Lib.hid h3
      have hn20 := h4
      have hl1 := h5
      have HXo := Lib.hid hx.old
      clear hrun hx h1 h2 h3 h4 h5 h6 h7
      simp only at HTk
      generalize told (Aut.tkS x.x) = T at *
      go_wp2_with fail
      refine HTk.out.mono ?_
      rintro e v1 ⟨R2, rc2, rfl, hr, hs, hm⟩
      have hbV := (Below.refl _ v1).alloc (Nat.le_refl _) (.cells #[.slice R2 l.length rc2, .int .u16 T, .int .u16 0, .bool false] 59)
      have HV := Lib.hid hbV
      have HOwn := Lib.hid (HF.out.row1 hm hbV)
      have HPk := Lib.hid ((pks_own hr).below hbV)
      have hA : R2 = none → rc2 = 0 := own_nilc hr
      have HS := Lib.hid hs
      have HMv := Lib.hid hm
      have hbs : Hid (w.heap.size + 2 ≤ v1.heap.size) := by
        have h1 := HF.out.my g (.inl rfl)
        have h2 := hs.lt
        show _ ≤ _
        omega
      have hln : Hid (l.length ≤ 1 ∧ n ≤ 20) := ⟨hl1, hn20⟩
      obtain ⟨m, hm'⟩ : ∃ m, l.length = m := ⟨_, rfl⟩
      have HLm := Lib.hid hm'
      rw [hm'] at hbV HV HOwn HX' HQ hl1 HPk
      clear hr hs hm hbV HTk hm'
      rw [show l.length = m from HLm.out]
      go_wp2_with (at_builtin; refine append_pks rfl _ _ 57 rfl (w.heap.size + 2) 56 i0 _ 24 Tryz.underlying57 hi hz0 hz1 hz2 rfl _ n (rqs (reqD ipK (newP cf)) n) rfl HOwn.out R2 m rc2 l HLm.out hA rfl HPk.out (by unfold maxLen; omega) (by omega) (by have := hbs.out; simp; omega) ?_; intro v2 w2 hown2 hgr2; have HT2 := Lib.hid (HF.out.step HLm.out HX'.out HQ.out HS.out HMv.out HV.out hgr2 hown2); obtain ⟨R3, rc3, hv3⟩ := own_slice hown2; subst hv3; clear hown2 hgr2)
      go_roundw
      case rel => exact ⟨k + 1, n + m, R3, rc3, by omega, by go_num, rfl, HT2⟩
      case measure => simp [intOf]; omega
    · obtain rfl : k = N := by omega
      obtain ⟨x, hrun, hx⟩ := HF.out.x
      have hrun2 : Run r mc mt (newP cf) (r * (mc + 1)) n x := by rw [HN.out]; exact hrun
      obtain ⟨rfl, rfl⟩ := run_end HM.out hrun2
      have HPk := Lib.hid (pks_own (l := rqs (reqD ipK (newP cf)) n) (c := rc) (by rw [rqs_len]; exact HF.out.row))
      have HSt := Lib.hid (side_state ipK g a q _ wr hx)
      have HBr := Lib.hid HF.out.b
      have hnn : ((n : Int) != (n : Int)) = false := by simp
      have hn20 : n ≤ 20 := hmc
      clear hrun hrun2 hx HF HN
      go_wp2_with fail
      refine HSt.out.mono ?_
      rintro e w7 ⟨rfl, rfl⟩
      have HLn : Hid ((rqs D n).length = n) := rqs_len D n
      rw [HD.out] at HPk
      have a0 : (0 : Int) ≤ (n : Int) := Int.natCast_nonneg _
      clear HSt HD
      go_wp2_with fail
      go_loopw [17] (fun i wq => ∃ j : Nat, j ≤ n ∧ i = .int .i64 j ∧ Hid (Pks wq R (rqs D n) ∧ Below w.heap.size w wq)) (fun i _ => n - (intOf i).toNat)
      case atStart => exact ⟨0, Nat.zero_le _, rfl, ⟨HPk.out, HBr.out⟩⟩
      case round =>
        obtain ⟨j, hj, rfl, HG⟩ := hrel
        by_cases hlt2 : j < n
        · obtain ⟨ad, p, rfl, hp, q0, q1, q2⟩ := HG.out.1.at_ (k := j) (by rw [HLn.out]; exact hlt2)
          obtain ⟨_, e0, e1, e2⟩ := rq_at hp hn20
          rw [show ((p.c.toNat : Nat) : Int) = 1 by rw [e0]; rfl] at q0
          rw [show ((p.i.toNat : Nat) : Int) = (j : Int) + 1 by rw [e1]; push_cast; rfl] at q1
          rw [e2] at q2
          have hD1 : (D.toList == D.toList) = true := by simp
          have hD2 : ((j : Int) + 1 != (j : Int) + 1) = false := by simp
          clear hp e0 e1 e2
          go_wp2
          go_roundw
          case rel => exact ⟨j + 1, by omega, by go_num, HG⟩
          case measure => simp [intOf]; omega
        · obtain rfl : j = n := by omega
          have HBg := Lib.hid HG.out.2
          clear HG HPk HLn
          go_wp2_with fail
          refine (alive_any _).mono ?_
          rintro e w8 ⟨rfl, hb8⟩
          have HE := Lib.hid (HBg.out.trans (hb8.mono HBg.out.size))
          clear hb8
          go_wp2
          go_ret
          exact ⟨rfl, HE.out⟩
theorem walk (x y z : Int) (cf : Conf) (w : World) :
    Calls Tryz.prog 6 #[.agg #[.int .i64 x, .int .i64 y, .int .i64 z], .agg #[Value.int .u32 cf.addr.toNat, .int .u32 cf.peer.toNat, .int .u32 cf.dns1.toNat, .int .u32 cf.dns2.toNat, .bool cf.want, .int .i64 cf.mn]] w fun e w' => e = .returned (.bool true) ∧ Below w.heap.size w w' := by
  by_cases hx : 60 < x ∧ x ≤ 1000
  · exact walk_skip x y z cf w hx.1 hx.2
  cases hm : Aut.may x y z && mayC cf
  · exact walk_no x y z cf w hx hm
  · rw [Bool.and_eq_true] at hm
    have h := hm.1
    simp only [Aut.may, Aut.ok, Bool.and_eq_true, decide_eq_true_eq] at h
    obtain ⟨r, rfl⟩ : ∃ r : Nat, x = r := ⟨x.toNat, by omega⟩
    obtain ⟨mc, rfl⟩ : ∃ r : Nat, y = r := ⟨y.toNat, by omega⟩
    obtain ⟨mt, rfl⟩ : ∃ r : Nat, z = r := ⟨z.toNat, by omega⟩
    exact walk_yes r mc mt cf w (by omega) hm.1 hm.2

set_option maxRecDepth 100000 in
theorem lifted (os : Os) (started : os.Started) (H : Type) (enc : TypeId × Value → H) :
    ReturnsInHanded {} Tryz.checked os 6 .any (Rows.negotLoneSpec.pre6 enc Tryz.prog Tryz.f6 Rows.negotLoneRow.domain false) (Rows.negotLoneSpec.post enc Tryz.prog Tryz.f6 false true false false) := by
  refine returnsInHanded_of_change (C := Tryz.checked) own started (by kernel_rfl) Tryz.func6
    (ChangeSpec.witness6 (enc := enc) (C := Tryz.checked) false ⟨#[], #[.agg #[.int .i64 0, .int .i64 0, .int .i64 0], .agg #[.int .u32 0, .int .u32 0, .int .u32 0, .int .u32 0, .bool false, .int .i64 0]], []⟩ 8 (by kernel_rfl) (by kernel_rfl) (by kernel_rfl) (by kernel_rfl)) ?_
  intro W base args ds gs before hval0 hW hcnd _
  have hval : ∀ (j : Nat) t v, Tryz.f6.params[j]? = some t → args[j]? = some v → Value.okWide Tryz.prog W .any base t v := hval0
  have hW' := hW
  obtain ⟨p, q, hA0, hV, rfl, hfz, hnd⟩ := hW
  have hlt := hW'.lt
  have hA : DataW.TrodAll enc Tryz.prog W 0 (fun _ => true) true Tryz.f6.params.toList args.toList ds p := hA0
  rw [Tryz.params6] at hA hval
  obtain ⟨v0, vs0, d0, ds0, p0, q0, hargs, rfl, rfl, h0, r0⟩ := trodAll_cons hA
  obtain ⟨v1, vs1, d1, ds1, p1, q1, rfl, rfl, rfl, h1, r1⟩ := trodAll_cons r0
  obtain ⟨rfl, rfl, rfl⟩ := trodAll_nil r1
  obtain rfl : args = #[v0, v1] := by cases args; simp_all
  obtain ⟨rfl, rfl⟩ := trodVars_none hV
  obtain ⟨a0, b0, c0, rfl⟩ := int3_of Tryz.underlying34 (by kernel_rfl) (by kernel_rfl) Tryz.underlying3 Tryz.underlying3 Tryz.underlying3 (hval 0 34 v0 rfl rfl) h0
  obtain ⟨a1, rfl⟩ := conf_of Tryz.underlying48 (by kernel_rfl) (by kernel_rfl) Tryz.underlying23 Tryz.underlying23 Tryz.underlying23 Tryz.underlying23 Tryz.underlying4 Tryz.underlying3 (hval 1 48 v1 rfl rfl) h1
  clear hA0 hval0
  exact (walk a0 b0 c0 a1 W).mono fun e W' ⟨he, hb⟩ => ⟨_, he, law_post (t := 4) laidOut (by kernel_rfl) rfl rfl Tryz.underlying4 ⟨rfl, rfl, rfl⟩ hW' hb⟩

theorem over : Rows.negotLoneRow.holds Tryz.pinned (OpenSpec.ofChange Rows.negotLoneSpec) :=
  OpenClaim.holds_of_wide 6 Tryz.f6 rfl rfl rfl rfl rfl rfl rfl ⟨rfl, rfl, rfl, rfl, rfl⟩ rfl rfl rfl rfl rfl (by kernel_rfl) Tryz.func6 (by kernel_rfl)
    (of_decide_eq_true (by kernel_rfl)) (by unfold Func.isWrapper; first | (rw [if_pos (by decide +kernel)]; kernel_rfl) | (rw [if_neg (by decide +kernel)]; exact ⟨rfl, rfl⟩))
    (fun os started H enc _ => lifted os started H enc)

theorem proved : Rows.NegotLoneSaid :=
  over
#print axioms proved
end Go.Proofs.YtikcgcgbcolndaaGreat.NegotLone
