/- PROVED: 'halyardlaw14.LcppolTakes' returns true for every configuration, numbers and Nak, and leaves them as they were. No condition. -/
import Derived.Test.YtcncmddhjbnggaaGreatPolGa
import Derived.Test.YtcncmddhjbnggaaGreatG8
import Derived.Test.YtcncmddhjbnggaaGreatPolX
import Derived.Test.YtcncmddhjbnggaaGreatG4
import Derived.Test.YtcncmddhjbnggaaGreatLcoEq
import Derived.Test.YtcncmddhjbnggaaGreatLcoRr
import Derived.Test.YtcncmddhjbnggaaGreatLaw
import Derived.Test.YtcncmddhjbnggaaGreatRows
import Derived.SizedLaws
import Derived.Deep.CutRange
import Derived.Deep.RegionHeld3
import Derived.OrdersHeld
set_option linter.unusedSimpArgs false
set_option linter.unusedVariables false
namespace Go.Proofs.YtcncmddhjbnggaaGreat.LcppolTakes
open Go.ChangeShapes Go.WideShapes Go.ChangeAt Go.RowKit Go.Proofs.YtcncmddhjbnggaaGreat.Oct Go.Proofs.YtcncmddhjbnggaaGreat.Row Go.Proofs.YtcncmddhjbnggaaGreat.Mem Go.Proofs.YtcncmddhjbnggaaGreat.Opt Go.Proofs.YtcncmddhjbnggaaGreat.Lco Go.Proofs.YtcncmddhjbnggaaGreat.Law Go.Proofs.YtcncmddhjbnggaaGreat.Pol
theorem own : ownKnob Tryz.prog.godebug = none := by kernel_rfl
theorem laidOut : laidOutB Tryz.prog = true := by kernel_rfl
theorem u32_andv {a b : UInt32} (h : a &&& b = b) : bits .and .u32 (a.toNat : Int) (b.toNat : Int) = (b.toNat : Int) := by
  rw [u32_and_nat a.toNat b.toNat a.toNat_lt b.toNat_lt, ← UInt32.toNat_and, h]
set_option maxHeartbeats 8000000 in
set_option maxRecDepth 100000 in
theorem walk (cf : Conf) (mg d : UInt32) (A : Option Addr) (n c : Nat) (l : List Opt) (w : World) (hn : n ≤ maxLen) (hl : Opts w w.heap.size A n l) :
    Calls Tryz.prog 4 #[.agg #[Value.int .u16 cf.mru.toNat, .bool cf.ha, .int .u32 cf.accm.toNat, .int .u8 cf.auth.toNat, .int .u8 cf.takes.toNat, .int .u8 cf.can.toNat, .bool cf.mg, .bool cf.pfc, .bool cf.acfc, .int .i64 cf.mn], .int .u32 mg.toNat, .int .u32 d.toNat, .slice A n c] w fun e w' => e = .returned (.bool true) ∧ Below w.heap.size w w' := by
  obtain ⟨W, hW, HW⟩ := boxC w cf
  obtain ⟨c0, c1, c2, c3, c4, c5, c6, c7, c8, c9⟩ := HW.out.1.all
  have HB := Lib.hid HW.out.2.1
  have HL := Lib.hid hl
  have HG := Lib.hid (long_row l A n c W ((hl.below HB.out).more HB.out.size) hn)
  clear hl HW
  go_enter Tryz.func4, Tryz.ntmps4
  go_wp2_with fail
  refine HG.out.mono ?_
  rintro e _ ⟨b, rfl, hb, rfl⟩
  cases b
  · obtain ⟨hn70, _⟩ := hb rfl
    clear hb HG hn
    cases hm : mayC cf
    · go_wp2_with fail
      refine (new_no cf mg W hm).mono ?_
      rintro e w1 ⟨rfl, hb1⟩
      have HB1 := Lib.hid (HB.out.trans (hb1.mono HB.out.size))
      clear hb1 hm
      go_wp2_with fail
      refine (alive_any _).mono ?_
      rintro e w99 ⟨rfl, hb99⟩
      have HB99 := Lib.hid (HB1.out.trans (hb99.mono HB1.out.size))
      clear hb99
      go_wp2
      go_ret
      exact ⟨rfl, HB99.out⟩
    · have HMay : Hid (may (newP cf mg).w = true ∧ (newP cf mg).bad = false) := ⟨wish_may mg hm, rfl⟩
      go_wp2_with fail
      refine (new_ok cf mg W hm).mono ?_
      rintro e w1 ⟨g, rfl, hg, hp, hb1⟩
      have HB1 := Lib.hid (HB.out.trans (hb1.mono HB.out.size))
      have HP1 := Lib.hid hp
      have HGl : Hid (w.heap.size ≤ g) := Nat.le_trans HB.out.size hg
      clear hb1 hp hg hm c0 c1 c2 c3 c4 c5 c6 c7 c8 c9 hW HB
      generalize newP cf mg = p at *
      go_wp2_with fail
      refine (wish_any g p w1 HP1.out).mono ?_
      rintro e w2 ⟨rfl, hb2⟩
      have HB2 := Lib.hid (HB1.out.trans (hb2.mono HB1.out.size))
      have HP2 := Lib.hid (HP1.out.callee hb2)
      clear hb2 HB1 HP1
      obtain ⟨V, hV, HV⟩ := boxL w2 p.w
      have HBV := Lib.hid (HB2.out.trans (HV.out.2.1.mono HB2.out.size))
      have HPV := Lib.hid (HP2.out.callee HV.out.2.1)
      have HXV := Lib.hid HV.out.1
      have HOV : Hid (Opts V V.heap.size A n l) := (HL.out.below HBV.out).more HBV.out.size
      have HN1 : Hid (w2.heap.size ≠ g) := Nat.ne_of_gt HP2.out.lt
      clear HV HB2 HP2
      unfold lv
      go_wp2_with fail
      refine (naked_any g p d l A n c V HPV.out HMay.out.1 HOV.out (by omega)).mono ?_
      rintro e w3 ⟨rfl, hp3, hm3⟩
      clear hV
      have HQ := Lib.hid (nk_says p d l)
      have HMq := Lib.hid (nkP_may d l HMay.out.1)
      have HNB : Hid (nkB l = (decide (0 < n) && decide (gE l = 0))) := by
        show _ = _
        unfold nkB
        rw [← HL.out.1]
        cases l with
        | nil => rfl
        | cons x r => rw [Bool.eq_iff_iff]; simp
      have HB3 := Lib.hid (HBV.out.trans (hm3.below HBV.out.size (fun k e => by rw [e]; exact HGl.out)))
      have HP3 := Lib.hid hp3
      have HX3 : Hid (LAt w3 w2.heap.size p.w) := Blk.moves HXV.out hm3 HN1.out
      have HO3 : Hid (Opts w3 w3.heap.size A n l) := (HL.out.below HB3.out).more HB3.out.size
      clear hp3 hm3 HBV HPV HXV HOV HN1
      generalize nkP p d l = q at *
      generalize w2.heap.size = b1 at *
      go_wp2_with fail
      refine (rget_c l A n c w3 HO3.out (by omega)).mono ?_
      rintro e w4 ⟨A4, c4, rfl, _, hb4⟩
      have HB4 := Lib.hid (HB3.out.trans (hb4.mono HB3.out.size))
      have HP4 := Lib.hid (HP3.out.callee hb4)
      have HX4 := Lib.hid (HX3.out.callee hb4)
      clear hb4 HB3 HP3 HX3 HO3
      generalize (gO l).length = n4
      generalize gE l = E at *
      generalize gL l = x at *
      obtain ⟨V, hV, HV⟩ := boxL w4 x
      have HBV := Lib.hid (HB4.out.trans (HV.out.2.1.mono HB4.out.size))
      have HPV := Lib.hid (HP4.out.callee HV.out.2.1)
      have HXV := Lib.hid (HX4.out.callee HV.out.2.1)
      have HYV := Lib.hid HV.out.1
      clear HV HB4 HP4 HX4
      go_wp2_with fail
      refine (wish_any g q V HPV.out).mono ?_
      rintro e w5 ⟨rfl, hb5⟩
      clear hV
      have HB5 := Lib.hid (HBV.out.trans (hb5.mono HBV.out.size))
      have HP5 := Lib.hid (HPV.out.callee hb5)
      have HX5 := Lib.hid (HXV.out.callee hb5)
      have HY5 := Lib.hid (HYV.out.callee hb5)
      clear hb5 HBV HPV HXV HYV
      obtain ⟨U, hU, HU⟩ := boxL w5 q.w
      have HBU := Lib.hid (HB5.out.trans (HU.out.2.1.mono HB5.out.size))
      have HPU := Lib.hid (HP5.out.callee HU.out.2.1)
      have HXU := Lib.hid (HX5.out.callee HU.out.2.1)
      have HYU := Lib.hid (HY5.out.callee HU.out.2.1)
      have HZU := Lib.hid HU.out.1
      clear HU HB5 HP5 HX5 HY5
      generalize w4.heap.size = b2 at *
      unfold lv
      have HGG := HGl
      have HBad : Hid (q.bad = false) := by
        obtain ⟨q1, q2, q3, q4, q5, q6, q7, q8, q9, q10, q11⟩ := HQ.out
        show _ = _; rw [q10]; exact HMay.out.2
      have HQQ : Hid (nkB l = false → q = p) := by
        obtain ⟨q1, q2, q3, q4, q5, q6, q7, q8, q9, q10, q11⟩ := HQ.out
        exact q11
      have x0 : U.cell? ⟨b1, 0, none⟩ = some (Value.bool p.w.hm) := HXU.out.c 0
      have x1 : U.cell? ⟨b1, 1, none⟩ = some (.int .u16 p.w.mru.toNat) := HXU.out.c 1
      have x2 : U.cell? ⟨b1, 2, none⟩ = some (.bool p.w.ha) := HXU.out.c 2
      have x3 : U.cell? ⟨b1, 3, none⟩ = some (.int .u32 p.w.accm.toNat) := HXU.out.c 3
      have x4 : U.cell? ⟨b1, 4, none⟩ = some (.int .u8 p.w.auth.toNat) := HXU.out.c 4
      have x5 : U.cell? ⟨b1, 5, none⟩ = some (.bool p.w.hg) := HXU.out.c 5
      have x6 : U.cell? ⟨b1, 6, none⟩ = some (.int .u32 p.w.magic.toNat) := HXU.out.c 6
      have x7 : U.cell? ⟨b1, 7, none⟩ = some (.bool p.w.pfc) := HXU.out.c 7
      have x8 : U.cell? ⟨b1, 8, none⟩ = some (.bool p.w.acfc) := HXU.out.c 8
      have y0 : U.cell? ⟨b2, 0, none⟩ = some (Value.bool x.hm) := HYU.out.c 0
      have y1 : U.cell? ⟨b2, 1, none⟩ = some (.int .u16 x.mru.toNat) := HYU.out.c 1
      have y2 : U.cell? ⟨b2, 2, none⟩ = some (.bool x.ha) := HYU.out.c 2
      have y3 : U.cell? ⟨b2, 3, none⟩ = some (.int .u32 x.accm.toNat) := HYU.out.c 3
      have y4 : U.cell? ⟨b2, 4, none⟩ = some (.int .u8 x.auth.toNat) := HYU.out.c 4
      have y5 : U.cell? ⟨b2, 5, none⟩ = some (.bool x.hg) := HYU.out.c 5
      have y6 : U.cell? ⟨b2, 6, none⟩ = some (.int .u32 x.magic.toNat) := HYU.out.c 6
      have y7 : U.cell? ⟨b2, 7, none⟩ = some (.bool x.pfc) := HYU.out.c 7
      have y8 : U.cell? ⟨b2, 8, none⟩ = some (.bool x.acfc) := HYU.out.c 8
      go_upto_region 10 with (fail)
      clear hU
      generalize w5.heap.size = b3 at *
      go_cut [12, 68] from 21 to 67 (fun _ s wx => s = .bool false ∧ wx = U)
      case first =>
        have z0 : U.cell? ⟨b3, 0, none⟩ = some (Value.bool q.w.hm) := HZU.out.c 0
        have z1 : U.cell? ⟨b3, 1, none⟩ = some (.int .u16 q.w.mru.toNat) := HZU.out.c 1
        have z2 : U.cell? ⟨b3, 2, none⟩ = some (.bool q.w.ha) := HZU.out.c 2
        have z3 : U.cell? ⟨b3, 3, none⟩ = some (.int .u32 q.w.accm.toNat) := HZU.out.c 3
        have z4 : U.cell? ⟨b3, 4, none⟩ = some (.int .u8 q.w.auth.toNat) := HZU.out.c 4
        have z5 : U.cell? ⟨b3, 5, none⟩ = some (.bool q.w.hg) := HZU.out.c 5
        have z6 : U.cell? ⟨b3, 6, none⟩ = some (.int .u32 q.w.magic.toNat) := HZU.out.c 6
        have z7 : U.cell? ⟨b3, 7, none⟩ = some (.bool q.w.pfc) := HZU.out.c 7
        have z8 : U.cell? ⟨b3, 8, none⟩ = some (.bool q.w.acfc) := HZU.out.c 8
        have HNB2 := Lib.hid HNB.out
        clear HQ
        by_cases h0 : n = 0
        · have e1 : nkB l = false := by rw [HNB.out, h0]; rfl
          have e2 : q = p := HQQ.out e1
          subst e2
          subst h0
          rw [e1]
          have hne := fun w => lcp_neq (show decide (q.w = q.w) = true from decide_eq_true rfl) w
          go_wp2
          go_meet
          exact ⟨rfl, rfl⟩
        · have h0' : (0 : Int) < (n : Int) := by omega
          have h0d : decide (0 < n) = true := decide_eq_true (by omega)
          by_cases hE : E = 0
          · have e1 : nkB l = true := by rw [HNB.out, h0d, hE]; rfl
            rw [e1]
            subst hE
            go_wp2
            go_meet
            exact ⟨rfl, rfl⟩
          · have e1 : nkB l = false := by rw [HNB.out, h0d, show decide (E = 0) = false from decide_eq_false hE]; rfl
            have e2 : q = p := HQQ.out e1
            have hE' : ¬ (E : Int) = 0 := by omega
            have hE2 : ((E : Int) == 0) = false := by simpa using hE'
            subst e2
            rw [e1]
            have hne := fun w => lcp_neq (show decide (q.w = q.w) = true from decide_eq_true rfl) w
            go_wp2
            go_meet
            exact ⟨rfl, rfl⟩
      case rest =>
        obtain ⟨rfl, rfl⟩ := hcut
        clear HNB HQQ
        obtain ⟨q1, q2, q3, q4, q5, q6, q7, q8, q9, q10, q11⟩ := HQ.out
        clear HQ
        have z0 : wc.cell? ⟨b3, 0, none⟩ = some (Value.bool p.w.hm) := by rw [← q1]; exact HZU.out.c 0
        have z1 : wc.cell? ⟨b3, 1, none⟩ = some (.int .u16 q.w.mru.toNat) := HZU.out.c 1
        have z2 : wc.cell? ⟨b3, 2, none⟩ = some (.bool p.w.ha) := by rw [← q2]; exact HZU.out.c 2
        have z3 : wc.cell? ⟨b3, 3, none⟩ = some (.int .u32 q.w.accm.toNat) := HZU.out.c 3
        have z4 : wc.cell? ⟨b3, 4, none⟩ = some (.int .u8 q.w.auth.toNat) := HZU.out.c 4
        have z5 : wc.cell? ⟨b3, 5, none⟩ = some (.bool p.w.hg) := by rw [← q3]; exact HZU.out.c 5
        have z6 : wc.cell? ⟨b3, 6, none⟩ = some (.int .u32 q.w.magic.toNat) := HZU.out.c 6
        have z7 : wc.cell? ⟨b3, 7, none⟩ = some (.bool p.w.pfc) := by rw [← q4]; exact HZU.out.c 7
        have z8 : wc.cell? ⟨b3, 8, none⟩ = some (.bool p.w.acfc) := by rw [← q5]; exact HZU.out.c 8
        obtain ⟨bz, hbz⟩ : ∃ bz, ((p.w.auth.toNat : Int) == 0) = bz := ⟨_, rfl⟩
        have hbz2 : ((q.w.auth.toNat : Int) == 0) = bz := by
          rw [← hbz, Bool.eq_iff_iff, beq_iff_eq, beq_iff_eq]
          have e0 : ∀ v : UInt8, (v.toNat : Int) = 0 ↔ v = 0 := fun v => ⟨fun h => UInt8.toNat_inj.1 (by rw [show v.toNat = 0 by omega]; rfl), fun h => by rw [h]; rfl⟩
          rw [e0, e0]
          exact q8
        generalize wc = U1 at *
        go_upto_region 12 with (fail)
        go_cut [110] from 69 to 109 (fun s wx => s = .bool false ∧ wx = U1)
        case first =>
          clear x1 x3 x6 y0 y1 y2 y3 y4 y5 y6 y7 y8 z1 z3 z6 q1 q2 q3 q4 q5 q6 q7 q8 q9 q10 q11
          go_wp2
          go_meet
          exact ⟨rfl, rfl⟩
        case rest =>
          obtain ⟨rfl, rfl⟩ := hcut
          generalize wc = U2 at *
          go_upto_region 14 with (fail)
          go_cut [156] from 69 to 155 (fun s wx => s = .bool false ∧ wx = U2)
          case first =>
            clear x0 x2 x5 x6 x7 x8 y2 y3 y5 y6 y7 y8 z0 z2 z5 z6 z7 z8 hbz hbz2 q1 q2 q3 q4 q5 q8 q10 q11
            have hac := u32_andv q7
            have Q6 := Lib.hid q6
            have Q9 := Lib.hid q9
            clear q6 q7 q9
            have e0 : ∀ a b : UInt16, a ≠ b → ((a.toNat : Int) != b.toNat) = true := fun a b h => by
              rw [bne_iff_ne]; intro e; exact h (UInt16.toNat_inj.1 (by omega))
            have e1 : ∀ a b : UInt8, a ≠ b → ((a.toNat : Int) != b.toNat) = true := fun a b h => by
              rw [bne_iff_ne]; intro e; exact h (UInt8.toNat_inj.1 (by omega))
            by_cases h1 : q.w.mru = p.w.mru
            · rw [h1] at z1
              by_cases h2 : q.w.auth = p.w.auth
              · rw [h2] at z4
                go_wp2
                go_meet
                exact ⟨rfl, rfl⟩
              · have h3 := e1 _ _ h2
                have h4 := Q9.out h2
                rw [← h4] at y4
                clear h2 h4
                go_wp2
                go_meet
                exact ⟨rfl, rfl⟩
            · have h3 := e0 _ _ h1
              obtain ⟨h4, h5, h6⟩ := Q6.out h1
              rw [h4] at y0
              rw [← h5] at y1
              have h7 : decide ((q.w.mru.toNat : Int) < 64) = false := decide_eq_false (by
                have : (64 : UInt16).toNat ≤ q.w.mru.toNat := h6
                have e : (64 : UInt16).toNat = 64 := rfl
                omega)
              clear h1 h4 h5 h6
              by_cases h2 : q.w.auth = p.w.auth
              · rw [h2] at z4
                go_wp2
                go_meet
                exact ⟨rfl, rfl⟩
              · have h13 := e1 _ _ h2
                have h14 := Q9.out h2
                rw [← h14] at y4
                clear h2 h14
                go_wp2
                go_meet
                exact ⟨rfl, rfl⟩
          case rest =>
            obtain ⟨rfl, rfl⟩ := hcut
            generalize wc = U3 at *
            clear x0 x1 x2 x3 x4 x5 x6 x7 x8 y0 y1 y2 y3 y4 y5 y6 y7 y8 z0 z1 z2 z3 z4 z5 z6 z7 z8 hbz hbz2 q1 q2 q3 q4 q5 q6 q7 q8 q9 q10 q11
            go_wp2_with fail
            refine (request_any g q U3 HPU.out HMq.out).mono ?_
            rintro e w6 ⟨A6, c6, rfl, hO6, hb6, hc6, hA6⟩
            have HB6 := Lib.hid (HBU.out.trans (hb6.mono HBU.out.size))
            have HP6 := Lib.hid (HPU.out.callee hb6)
            have HO6 := Lib.hid hO6
            clear hb6 hO6 hc6 hA6 HBU HPU HXU HYU HZU HMay HGl
            have HG6 : Hid (w.heap.size ≤ g) := HGG.out
            obtain ⟨r, hr⟩ : ∃ r, req q = r := ⟨_, rfl⟩
            rw [hr] at HO6
            have HR := Lib.hid hr
            obtain ⟨m, hm⟩ : ∃ m, r.length = m := ⟨_, rfl⟩
            rw [hr, hm]
            rw [hm] at HO6
            have HM := Lib.hid hm
            have hm6 : m ≤ 6 := by rw [← hm, ← hr]; exact put_len6 q.w
            clear hr hm
            by_cases hm0 : m = 0
            · subst hm0
              go_wp2_with fail
              refine (alive_any _).mono ?_
              rintro e w99 ⟨rfl, hb99⟩
              have HB99 := Lib.hid (HB6.out.trans (hb99.mono HB6.out.size))
              clear hb99
              go_wp2
              go_ret
              exact ⟨rfl, HB99.out⟩
            · have hmi : ¬ (m : Int) = 0 := by omega
              have hdl := d.toNat_lt
              obtain ⟨k, hk⟩ : ∃ k : Nat, d.toNat % m = k := ⟨_, rfl⟩
              have hkm : k < m := by rw [← hk]; exact Nat.mod_lt _ (by omega)
              have hkt : ((d.toNat : Int).tmod (m : Int)) = (k : Int) := by rw [← hk]; rfl
              have hk0 : decide ((k : Int) < 0) = false := decide_eq_false (by omega)
              have hk1 : (0 : Int) ≤ (k : Int) := Int.natCast_nonneg _
              have hk2 : (k : Int) < (m : Int) := by omega
              clear hk
              obtain ⟨ad, o, rfl, hB, ho, hS1, hc0, hc1⟩ := HO6.out.at_ hkm
              have HJ := Lib.hid (rej_one (q := q) (o := o) (by rw [HR.out]; exact List.mem_of_getElem? ho))
              have HBd : Hid ((dropP q o).bad = (o.1 == 3)) := by show (q.bad || o.1 == 3) = _; rw [HBad.out]; rfl
              have HMd : Hid (may (dropP q o).w = true) := drop_may o.1 HMq.out
              have HLd : Hid ((req (dropP q o)).length + 1 = m) := by show _ = _; rw [HJ.out.2.2.1, HR.out]; exact HM.out
              obtain ⟨lq, hlq⟩ : ∃ lq, (req (dropP q o)).length = lq := ⟨_, rfl⟩
              have HLQ := Lib.hid hlq
              have hlq2 : lq + 1 = m := by rw [← hlq]; exact HLd.out
              have hwr : IntKind.i64.wrap ((m : Int) - 1) = (lq : Int) := by rw [show (m : Int) - 1 = (lq : Int) by omega]; exact IntWalk.i64_in _ (by omega)
              clear hlq
              obtain ⟨b, hb3⟩ : ∃ b, ((o.1.toNat : Int) == 3) = b := ⟨_, rfl⟩
              have HB3 : Hid ((dropP q o).bad = b) := by show _ = _; rw [HBd.out, ← hb3, Bool.eq_iff_iff, beq_iff_eq, beq_iff_eq]; exact ⟨fun h => by rw [h]; rfl, fun h => UInt8.toNat_inj.1 (by rw [show o.1.toNat = 3 by omega]; rfl)⟩
              clear ho hB HR HM HBd HBad
              go_upto_region 22 with (fail)
              refine wp_region_held_drew (S := (fun w' => w'.cell? (ad.add (k * 2)) = some (.int .u8 o.1.toNat) ∧ w'.cell? ⟨(ad.add (k * 2)).block, (ad.add (k * 2)).off + 1, none⟩ = some (.string o.2))) (by kernel_rfl) ⟨hc0, hc1⟩ (fun hHeld => ?_)
              have HPd : Hid (PAt w6.drew g q) := HP6.out
              have HOd : Hid (Opts w6.drew w6.drew.heap.size (some ad) m r) := HO6.out
              have HBd : Hid (Below w.heap.size w w6.drew) := HB6.out.drew
              have hd0 : w6.drew.cell? (ad.add (k * 2)) = some (.int .u8 o.1.toNat) := hc0
              have hd1 : w6.drew.cell? ⟨(ad.add (k * 2)).block, (ad.add (k * 2)).off + 1, none⟩ = some (.string o.2) := hc1
              clear HP6 HO6 HB6 hc0 hc1
              generalize w6.drew = U at *
              have HKeep : Hid (∀ W W', (W.cell? (ad.add (k * 2)) = some (.int .u8 o.1.toNat) ∧ W.cell? ⟨(ad.add (k * 2)).block, (ad.add (k * 2)).off + 1, none⟩ = some (.string o.2)) → Below W.heap.size W W' → (W'.cell? (ad.add (k * 2)) = some (.int .u8 o.1.toNat) ∧ W'.cell? ⟨(ad.add (k * 2)).block, (ad.add (k * 2)).off + 1, none⟩ = some (.string o.2))) := fun W W' h hb => ⟨(hb.cell (World.block_lt_of_cell? W _ h.1)).trans h.1, (hb.cell (World.block_lt_of_cell? W _ h.2)).trans h.2⟩
              have HTurn : Hid (∀ W W' q0, (W.cell? (ad.add (k * 2)) = some (.int .u8 o.1.toNat) ∧ W.cell? ⟨(ad.add (k * 2)).block, (ad.add (k * 2)).off + 1, none⟩ = some (.string o.2)) → PAt W g q0 → Moves (fun j => j = g) W W' → (W'.cell? (ad.add (k * 2)) = some (.int .u8 o.1.toNat) ∧ W'.cell? ⟨(ad.add (k * 2)).block, (ad.add (k * 2)).off + 1, none⟩ = some (.string o.2))) := fun W W' q0 h hp hm => by
                have hne : (ad.add (k * 2)).block ≠ g := str_apart hp (pv_no _ _) h.2
                exact ⟨(hm.cell (World.block_lt_of_cell? W _ h.1) hne).trans h.1, (hm.cell (World.block_lt_of_cell? W _ h.2) (by exact hne)).trans h.2⟩
              refine wpAnyH_take (i := 0) (v := ?vv0_1) rfl (by kernel_rfl) (by kernel_rfl) (by kernel_rfl) (fun _ _ _ h => h) (Or.inl ⟨by rfl, ?yy0_1⟩) (by assumption) ?rr0_1
              case yy0_1 => (intro w hSw; (try dsimp only at hSw); obtain ⟨hs0, hs1⟩ := hSw; (try simp only [List.getElem_toArray, List.getElem_cons_succ, List.getElem_cons_zero, Act.put, List.setIfInBounds_toArray, List.set_cons_zero, List.set_cons_succ]); go_simp; (try (with_reducible rfl)))
              try simp only [List.getElem_toArray, List.getElem_cons_succ, List.getElem_cons_zero, Act.put, List.setIfInBounds_toArray, List.set_cons_zero, List.set_cons_succ]
              refine wpAnyH_take (i := 1) (v := ?vv1_2) rfl (by kernel_rfl) (by kernel_rfl) (by kernel_rfl) (fun _ _ _ h => h) (Or.inl ⟨by rfl, ?yy1_2⟩) (by assumption) ?rr1_2
              case yy1_2 => (intro w hSw; (try dsimp only at hSw); obtain ⟨hs0, hs1⟩ := hSw; (try simp only [List.getElem_toArray, List.getElem_cons_succ, List.getElem_cons_zero, Act.put, List.setIfInBounds_toArray, List.set_cons_zero, List.set_cons_succ]); go_simp; (try (with_reducible rfl)))
              try simp only [List.getElem_toArray, List.getElem_cons_succ, List.getElem_cons_zero, Act.put, List.setIfInBounds_toArray, List.set_cons_zero, List.set_cons_succ]
              refine wpAnyH_take (i := 2) (v := ?vv2_3) rfl (by kernel_rfl) (by kernel_rfl) (by kernel_rfl) (fun _ _ _ h => h) (Or.inl ⟨by rfl, ?yy2_3⟩) (by assumption) ?rr2_3
              case yy2_3 => (intro w hSw; (try dsimp only at hSw); obtain ⟨hs0, hs1⟩ := hSw; (try simp only [List.getElem_toArray, List.getElem_cons_succ, List.getElem_cons_zero, Act.put, List.setIfInBounds_toArray, List.set_cons_zero, List.set_cons_succ]); go_simp; (try (with_reducible rfl)))
              try simp only [List.getElem_toArray, List.getElem_cons_succ, List.getElem_cons_zero, Act.put, List.setIfInBounds_toArray, List.set_cons_zero, List.set_cons_succ]
              refine wpAnyH_take (i := 3) (v := ?vv3_4) rfl (by kernel_rfl) (by kernel_rfl) (by kernel_rfl) (fun _ _ _ h => h) (Or.inl ⟨by rfl, ?yy3_4⟩) (by assumption) ?rr3_4
              case yy3_4 => (intro w hSw; (try dsimp only at hSw); obtain ⟨hs0, hs1⟩ := hSw; (try simp only [List.getElem_toArray, List.getElem_cons_succ, List.getElem_cons_zero, Act.put, List.setIfInBounds_toArray, List.set_cons_zero, List.set_cons_succ]); go_simp; (try (with_reducible rfl)))
              try simp only [List.getElem_toArray, List.getElem_cons_succ, List.getElem_cons_zero, Act.put, List.setIfInBounds_toArray, List.set_cons_zero, List.set_cons_succ]
              refine wpAnyH_take (i := 4) (v := ?vv4_5) rfl (by kernel_rfl) (by kernel_rfl) (by kernel_rfl) (fun _ _ _ h => h) (Or.inl ⟨by rfl, ?yy4_5⟩) (by assumption) ?rr4_5
              case yy4_5 => (intro w hSw; (try dsimp only at hSw); obtain ⟨hs0, hs1⟩ := hSw; (try simp only [List.getElem_toArray, List.getElem_cons_succ, List.getElem_cons_zero, Act.put, List.setIfInBounds_toArray, List.set_cons_zero, List.set_cons_succ]); go_simp; (try (with_reducible rfl)))
              try simp only [List.getElem_toArray, List.getElem_cons_succ, List.getElem_cons_zero, Act.put, List.setIfInBounds_toArray, List.set_cons_zero, List.set_cons_succ]
              have HSU := Lib.hid (HKeep.out U (U.alloc (.cells #[.int .u8 o.1.toNat, .string o.2] 51)) ⟨hd0, hd1⟩ ((Below.refl U.heap.size U).alloc (Nat.le_refl _) _))
              have HPA := Lib.hid (HPd.out.alloc (.cells #[.int .u8 o.1.toNat, .string o.2] 51))
              have HBA := Lib.hid (HBd.out.alloc HBd.out.size (.cells #[.int .u8 o.1.toNat, .string o.2] 51))
              have HRj := Lib.hid (rejected_any g q [o] (some ⟨U.heap.size, 0, none⟩) 1 1 (U.alloc (.cells #[.int .u8 o.1.toNat, .string o.2] 51)) HPA.out HMq.out (one_opt U o hS1) (by omega))
              rw [HJ.out.1, HJ.out.2.1] at HRj
              refine wpAnyH_ready (rs := [5]) (by kernel_rfl) (by simp) ?_
              refine AllReadyH.cons (o := _) rfl (fun K hK => ?_) AllReadyH.nil
              try simp only [List.getElem_toArray, List.getElem_cons_succ, List.getElem_cons_zero, Act.put, List.setIfInBounds_toArray, List.set_cons_zero, List.set_cons_succ]
              go_simp
              refine hK.out _ _ HSU.out (fun hHeld => ?_)
              clear hK K
              try simp only [List.getElem_toArray, List.getElem_cons_succ, List.getElem_cons_zero, Act.put, List.setIfInBounds_toArray, List.set_cons_zero, List.set_cons_succ]
              refine wpAnyH_ready (rs := [6]) (by kernel_rfl) (by simp) ?_
              refine AllReadyH.cons (o := _) rfl (fun K hK => ?_) AllReadyH.nil
              try simp only [List.getElem_toArray, List.getElem_cons_succ, List.getElem_cons_zero, Act.put, List.setIfInBounds_toArray, List.set_cons_zero, List.set_cons_succ]
              go_simp
              refine HRj.out.mono ?_
              rintro e w7 ⟨rfl, hp7, hm7⟩
              have HP7 := Lib.hid hp7
              have HB7 := Lib.hid (HBA.out.trans (hm7.below HBA.out.size (fun k e => by rw [e]; exact HG6.out)))
              have HS7 := Lib.hid (HTurn.out _ _ _ HSU.out HPA.out hm7)
              have HO7 : Hid (Opts w7 w7.heap.size (some ad) m r) := (opts_past ((HOd.out.laid (.cells #[.int .u8 o.1.toNat, .string o.2] 51))) HPA.out (pv_no _) hm7 (Nat.le_refl _)).more hm7.size
              clear hp7 hm7 HRj HSU HPA HBA
              refine hK.out _ _ HS7.out (fun hHeld => ?_)
              clear hK K
              try simp only [List.getElem_toArray, List.getElem_cons_succ, List.getElem_cons_zero, Act.put, List.setIfInBounds_toArray, List.set_cons_zero, List.set_cons_succ]
              refine wpAnyH_take (i := 7) (v := ?vv7_6) rfl (by kernel_rfl) (by kernel_rfl) (by kernel_rfl) (fun _ _ _ h => h) (Or.inl ⟨by rfl, ?yy7_6⟩) (by assumption) ?rr7_6
              case yy7_6 => (intro w hSw; (try dsimp only at hSw); obtain ⟨hs0, hs1⟩ := hSw; (try simp only [List.getElem_toArray, List.getElem_cons_succ, List.getElem_cons_zero, Act.put, List.setIfInBounds_toArray, List.set_cons_zero, List.set_cons_succ]); go_simp; (try (with_reducible rfl)))
              try simp only [List.getElem_toArray, List.getElem_cons_succ, List.getElem_cons_zero, Act.put, List.setIfInBounds_toArray, List.set_cons_zero, List.set_cons_succ]
              refine wpAnyH_take (i := 8) (v := ?vv8_7) rfl (by kernel_rfl) (by kernel_rfl) (by kernel_rfl) (fun _ _ _ h => h) (Or.inl ⟨by rfl, ?yy8_7⟩) (by assumption) ?rr8_7
              case yy8_7 => (intro w hSw; (try dsimp only at hSw); obtain ⟨hs0, hs1⟩ := hSw; (try simp only [List.getElem_toArray, List.getElem_cons_succ, List.getElem_cons_zero, Act.put, List.setIfInBounds_toArray, List.set_cons_zero, List.set_cons_succ]); go_simp; (try (with_reducible rfl)))
              try simp only [List.getElem_toArray, List.getElem_cons_succ, List.getElem_cons_zero, Act.put, List.setIfInBounds_toArray, List.set_cons_zero, List.set_cons_succ]
              refine wpAnyH_take (i := 9) (v := ?vv9_8) rfl (by kernel_rfl) (by kernel_rfl) (by kernel_rfl) (fun _ _ _ h => h) (Or.inl ⟨by rfl, ?yy9_8⟩) (by assumption) ?rr9_8
              case yy9_8 => (intro w hSw; (try dsimp only at hSw); obtain ⟨hs0, hs1⟩ := hSw; (try simp only [List.getElem_toArray, List.getElem_cons_succ, List.getElem_cons_zero, Act.put, List.setIfInBounds_toArray, List.set_cons_zero, List.set_cons_succ]); go_simp; (try (with_reducible rfl)))
              try simp only [List.getElem_toArray, List.getElem_cons_succ, List.getElem_cons_zero, Act.put, List.setIfInBounds_toArray, List.set_cons_zero, List.set_cons_succ]
              refine wpAnyH_take (i := 12) (v := ?vv12_9) rfl (by kernel_rfl) (by kernel_rfl) (by kernel_rfl) (fun _ _ _ h => h) (Or.inl ⟨by rfl, ?yy12_9⟩) (by assumption) ?rr12_9
              case yy12_9 => (intro w hSw; (try dsimp only at hSw); obtain ⟨hs0, hs1⟩ := hSw; (try simp only [List.getElem_toArray, List.getElem_cons_succ, List.getElem_cons_zero, Act.put, List.setIfInBounds_toArray, List.set_cons_zero, List.set_cons_succ]); go_simp; (try (with_reducible rfl)))
              try simp only [List.getElem_toArray, List.getElem_cons_succ, List.getElem_cons_zero, Act.put, List.setIfInBounds_toArray, List.set_cons_zero, List.set_cons_succ]
              refine wpAnyH_take (i := 13) (v := ?vv13_10) rfl (by kernel_rfl) (by kernel_rfl) (by kernel_rfl) (fun _ _ _ h => h) (Or.inl ⟨by rfl, ?yy13_10⟩) (by assumption) ?rr13_10
              case yy13_10 => (intro w hSw; (try dsimp only at hSw); obtain ⟨hs0, hs1⟩ := hSw; (try simp only [List.getElem_toArray, List.getElem_cons_succ, List.getElem_cons_zero, Act.put, List.setIfInBounds_toArray, List.set_cons_zero, List.set_cons_succ]); go_simp; (try (with_reducible rfl)))
              try simp only [List.getElem_toArray, List.getElem_cons_succ, List.getElem_cons_zero, Act.put, List.setIfInBounds_toArray, List.set_cons_zero, List.set_cons_succ]
              refine wpAnyH_take (i := 14) (v := ?vv14_11) rfl (by kernel_rfl) (by kernel_rfl) (by kernel_rfl) (fun _ _ _ h => h) (Or.inl ⟨by rfl, ?yy14_11⟩) (by assumption) ?rr14_11
              case yy14_11 => (intro w hSw; (try dsimp only at hSw); obtain ⟨hs0, hs1⟩ := hSw; (try simp only [List.getElem_toArray, List.getElem_cons_succ, List.getElem_cons_zero, Act.put, List.setIfInBounds_toArray, List.set_cons_zero, List.set_cons_succ]); go_simp; (try (with_reducible rfl)))
              try simp only [List.getElem_toArray, List.getElem_cons_succ, List.getElem_cons_zero, Act.put, List.setIfInBounds_toArray, List.set_cons_zero, List.set_cons_succ]
              refine wpAnyH_ready (rs := [10]) (by kernel_rfl) (by simp) ?_
              refine AllReadyH.cons (o := _) rfl (fun K hK => ?_) AllReadyH.nil
              try simp only [List.getElem_toArray, List.getElem_cons_succ, List.getElem_cons_zero, Act.put, List.setIfInBounds_toArray, List.set_cons_zero, List.set_cons_succ]
              go_simp
              refine (request_any g _ w7 HP7.out HMd.out).mono ?_
              rintro e w8 ⟨A8, c8, rfl, _, hb8, _, _⟩
              have HP8 := Lib.hid (HP7.out.callee hb8)
              have HB8 := Lib.hid (HB7.out.trans (hb8.mono HB7.out.size))
              have HS8 := Lib.hid (HKeep.out _ _ HS7.out hb8)
              have HO8 := Lib.hid (HO7.out.next hb8)
              clear hb8 HP7 HB7 HS7 HO7
              rw [HLQ.out]
              refine hK.out _ _ HS8.out (fun hHeld => ?_)
              clear hK K
              try simp only [List.getElem_toArray, List.getElem_cons_succ, List.getElem_cons_zero, Act.put, List.setIfInBounds_toArray, List.set_cons_zero, List.set_cons_succ]
              refine wpAnyH_take (i := 11) (v := ?vv11_12) rfl (by kernel_rfl) (by kernel_rfl) (by kernel_rfl) (fun _ _ _ h => h) (Or.inl ⟨by rfl, ?yy11_12⟩) (by assumption) ?rr11_12
              case yy11_12 => (intro w hSw; (try dsimp only at hSw); obtain ⟨hs0, hs1⟩ := hSw; (try simp only [List.getElem_toArray, List.getElem_cons_succ, List.getElem_cons_zero, Act.put, List.setIfInBounds_toArray, List.set_cons_zero, List.set_cons_succ]); go_simp; (try (with_reducible rfl)))
              try simp only [List.getElem_toArray, List.getElem_cons_succ, List.getElem_cons_zero, Act.put, List.setIfInBounds_toArray, List.set_cons_zero, List.set_cons_succ]
              refine wpAnyH_take (i := 15) (v := ?vv15_13) rfl (by kernel_rfl) (by kernel_rfl) (by kernel_rfl) (fun _ _ _ h => h) (Or.inl ⟨by rfl, ?yy15_13⟩) (by assumption) ?rr15_13
              case yy15_13 => (intro w hSw; (try dsimp only at hSw); obtain ⟨hs0, hs1⟩ := hSw; (try simp only [List.getElem_toArray, List.getElem_cons_succ, List.getElem_cons_zero, Act.put, List.setIfInBounds_toArray, List.set_cons_zero, List.set_cons_succ]); go_simp; (try (with_reducible rfl)))
              try simp only [List.getElem_toArray, List.getElem_cons_succ, List.getElem_cons_zero, Act.put, List.setIfInBounds_toArray, List.set_cons_zero, List.set_cons_succ]
              refine wpAnyH_take (i := 16) (v := ?vv16_14) rfl (by kernel_rfl) (by kernel_rfl) (by kernel_rfl) (fun _ _ _ h => h) (Or.inl ⟨by rfl, ?yy16_14⟩) (by assumption) ?rr16_14
              case yy16_14 => (intro w hSw; (try dsimp only at hSw); obtain ⟨hs0, hs1⟩ := hSw; (try simp only [List.getElem_toArray, List.getElem_cons_succ, List.getElem_cons_zero, Act.put, List.setIfInBounds_toArray, List.set_cons_zero, List.set_cons_succ]); go_simp; (try (with_reducible rfl)))
              try simp only [List.getElem_toArray, List.getElem_cons_succ, List.getElem_cons_zero, Act.put, List.setIfInBounds_toArray, List.set_cons_zero, List.set_cons_succ]
              refine wpAnyH_take (i := 17) (v := ?vv17_15) rfl (by kernel_rfl) (by kernel_rfl) (by kernel_rfl) (fun _ _ _ h => h) (Or.inl ⟨by rfl, ?yy17_15⟩) (by assumption) ?rr17_15
              case yy17_15 => (intro w hSw; (try dsimp only at hSw); obtain ⟨hs0, hs1⟩ := hSw; (try simp only [List.getElem_toArray, List.getElem_cons_succ, List.getElem_cons_zero, Act.put, List.setIfInBounds_toArray, List.set_cons_zero, List.set_cons_succ]); go_simp; (try (with_reducible rfl)))
              try simp only [List.getElem_toArray, List.getElem_cons_succ, List.getElem_cons_zero, Act.put, List.setIfInBounds_toArray, List.set_cons_zero, List.set_cons_succ]
              refine wpAnyH_take (i := 18) (v := ?vv18_16) rfl (by kernel_rfl) (by kernel_rfl) (by kernel_rfl) (fun _ _ _ h => h) (Or.inl ⟨by rfl, ?yy18_16⟩) (by assumption) ?rr18_16
              case yy18_16 => (intro w hSw; (try dsimp only at hSw); obtain ⟨hs0, hs1⟩ := hSw; (try simp only [List.getElem_toArray, List.getElem_cons_succ, List.getElem_cons_zero, Act.put, List.setIfInBounds_toArray, List.set_cons_zero, List.set_cons_succ]); go_simp; (try (with_reducible rfl)))
              try simp only [List.getElem_toArray, List.getElem_cons_succ, List.getElem_cons_zero, Act.put, List.setIfInBounds_toArray, List.set_cons_zero, List.set_cons_succ]
              refine wpAnyH_take (i := 20) (v := ?vv20_17) rfl (by kernel_rfl) (by kernel_rfl) (by kernel_rfl) (fun _ _ _ h => h) (Or.inl ⟨by rfl, ?yy20_17⟩) (by assumption) ?rr20_17
              case yy20_17 => (intro w hSw; (try dsimp only at hSw); obtain ⟨hs0, hs1⟩ := hSw; (try simp only [List.getElem_toArray, List.getElem_cons_succ, List.getElem_cons_zero, Act.put, List.setIfInBounds_toArray, List.set_cons_zero, List.set_cons_succ]); go_simp; (try (with_reducible rfl)))
              try simp only [List.getElem_toArray, List.getElem_cons_succ, List.getElem_cons_zero, Act.put, List.setIfInBounds_toArray, List.set_cons_zero, List.set_cons_succ]
              refine wpAnyH_take (i := 21) (v := ?vv21_18) rfl (by kernel_rfl) (by kernel_rfl) (by kernel_rfl) (fun _ _ _ h => h) (Or.inl ⟨by rfl, ?yy21_18⟩) (by assumption) ?rr21_18
              case yy21_18 => (intro w hSw; (try dsimp only at hSw); obtain ⟨hs0, hs1⟩ := hSw; (try simp only [List.getElem_toArray, List.getElem_cons_succ, List.getElem_cons_zero, Act.put, List.setIfInBounds_toArray, List.set_cons_zero, List.set_cons_succ]); go_simp; (try (with_reducible rfl)))
              try simp only [List.getElem_toArray, List.getElem_cons_succ, List.getElem_cons_zero, Act.put, List.setIfInBounds_toArray, List.set_cons_zero, List.set_cons_succ]
              refine wpAnyH_take (i := 22) (v := ?vv22_19) rfl (by kernel_rfl) (by kernel_rfl) (by kernel_rfl) (fun _ _ _ h => h) (Or.inl ⟨by rfl, ?yy22_19⟩) (by assumption) ?rr22_19
              case yy22_19 => (intro w hSw; (try dsimp only at hSw); obtain ⟨hs0, hs1⟩ := hSw; (try simp only [List.getElem_toArray, List.getElem_cons_succ, List.getElem_cons_zero, Act.put, List.setIfInBounds_toArray, List.set_cons_zero, List.set_cons_succ]); go_simp; (try (with_reducible rfl)))
              try simp only [List.getElem_toArray, List.getElem_cons_succ, List.getElem_cons_zero, Act.put, List.setIfInBounds_toArray, List.set_cons_zero, List.set_cons_succ]
              refine wpAnyH_take (i := 23) (v := ?vv23_20) rfl (by kernel_rfl) (by kernel_rfl) (by kernel_rfl) (fun _ _ _ h => h) (Or.inl ⟨by rfl, ?yy23_20⟩) (by assumption) ?rr23_20
              case yy23_20 => (intro w hSw; (try dsimp only at hSw); obtain ⟨hs0, hs1⟩ := hSw; (try simp only [List.getElem_toArray, List.getElem_cons_succ, List.getElem_cons_zero, Act.put, List.setIfInBounds_toArray, List.set_cons_zero, List.set_cons_succ]); go_simp; (try (with_reducible rfl)))
              try simp only [List.getElem_toArray, List.getElem_cons_succ, List.getElem_cons_zero, Act.put, List.setIfInBounds_toArray, List.set_cons_zero, List.set_cons_succ]
              refine wpAnyH_take (i := 24) (v := ?vv24_21) rfl (by kernel_rfl) (by kernel_rfl) (by kernel_rfl) (fun _ _ _ h => h) (Or.inl ⟨by rfl, ?yy24_21⟩) (by assumption) ?rr24_21
              case yy24_21 => (intro w hSw; (try dsimp only at hSw); obtain ⟨hs0, hs1⟩ := hSw; (try simp only [List.getElem_toArray, List.getElem_cons_succ, List.getElem_cons_zero, Act.put, List.setIfInBounds_toArray, List.set_cons_zero, List.set_cons_succ]); go_simp; (try (with_reducible rfl)))
              try simp only [List.getElem_toArray, List.getElem_cons_succ, List.getElem_cons_zero, Act.put, List.setIfInBounds_toArray, List.set_cons_zero, List.set_cons_succ]
              refine wpAnyH_take (i := 25) (v := ?vv25_22) rfl (by kernel_rfl) (by kernel_rfl) (by kernel_rfl) (fun _ _ _ h => h) (Or.inl ⟨by rfl, ?yy25_22⟩) (by assumption) ?rr25_22
              case yy25_22 => (intro w hSw; (try dsimp only at hSw); obtain ⟨hs0, hs1⟩ := hSw; (try simp only [List.getElem_toArray, List.getElem_cons_succ, List.getElem_cons_zero, Act.put, List.setIfInBounds_toArray, List.set_cons_zero, List.set_cons_succ]); go_simp; (try (with_reducible rfl)))
              try simp only [List.getElem_toArray, List.getElem_cons_succ, List.getElem_cons_zero, Act.put, List.setIfInBounds_toArray, List.set_cons_zero, List.set_cons_succ]
              refine wpAnyH_ready (rs := [19]) (by kernel_rfl) (by simp) ?_
              refine AllReadyH.cons (o := _) rfl (fun K hK => ?_) AllReadyH.nil
              try simp only [List.getElem_toArray, List.getElem_cons_succ, List.getElem_cons_zero, Act.put, List.setIfInBounds_toArray, List.set_cons_zero, List.set_cons_succ]
              go_simp
              refine (bad_any g _ w8 HP8.out).mono ?_
              rintro e _ ⟨rfl, rfl⟩
              rw [HB3.out]
              refine hK.out _ _ HS8.out (fun hHeld => ?_)
              clear hK K
              try simp only [List.getElem_toArray, List.getElem_cons_succ, List.getElem_cons_zero, Act.put, List.setIfInBounds_toArray, List.set_cons_zero, List.set_cons_succ]
              refine wpAnyH_take (i := 26) (v := ?vv26_23) rfl (by kernel_rfl) (by kernel_rfl) (by kernel_rfl) (fun _ _ _ h => h) (Or.inl ⟨by rfl, ?yy26_23⟩) (by assumption) ?rr26_23
              case yy26_23 => (intro w hSw; (try dsimp only at hSw); obtain ⟨hs0, hs1⟩ := hSw; (try simp only [List.getElem_toArray, List.getElem_cons_succ, List.getElem_cons_zero, Act.put, List.setIfInBounds_toArray, List.set_cons_zero, List.set_cons_succ]); go_simp; (try (with_reducible rfl)))
              try simp only [List.getElem_toArray, List.getElem_cons_succ, List.getElem_cons_zero, Act.put, List.setIfInBounds_toArray, List.set_cons_zero, List.set_cons_succ]
              refine wpAnyH_take (i := 27) (v := ?vv27_24) rfl (by kernel_rfl) (by kernel_rfl) (by kernel_rfl) (fun _ _ _ h => h) (Or.inl ⟨by rfl, ?yy27_24⟩) (by assumption) ?rr27_24
              case yy27_24 => (intro w hSw; (try dsimp only at hSw); obtain ⟨hs0, hs1⟩ := hSw; (try simp only [List.getElem_toArray, List.getElem_cons_succ, List.getElem_cons_zero, Act.put, List.setIfInBounds_toArray, List.set_cons_zero, List.set_cons_succ]); go_simp; (try (with_reducible rfl)))
              try simp only [List.getElem_toArray, List.getElem_cons_succ, List.getElem_cons_zero, Act.put, List.setIfInBounds_toArray, List.set_cons_zero, List.set_cons_succ]
              refine wpAnyH_take (i := 28) (v := ?vv28_25) rfl (by kernel_rfl) (by kernel_rfl) (by kernel_rfl) (fun _ _ _ h => h) (Or.inl ⟨by rfl, ?yy28_25⟩) (by assumption) ?rr28_25
              case yy28_25 => (intro w hSw; (try dsimp only at hSw); obtain ⟨hs0, hs1⟩ := hSw; (try simp only [List.getElem_toArray, List.getElem_cons_succ, List.getElem_cons_zero, Act.put, List.setIfInBounds_toArray, List.set_cons_zero, List.set_cons_succ]); go_simp; (try (with_reducible rfl)))
              try simp only [List.getElem_toArray, List.getElem_cons_succ, List.getElem_cons_zero, Act.put, List.setIfInBounds_toArray, List.set_cons_zero, List.set_cons_succ]
              refine wpAnyH_take (i := 29) (v := ?vv29_26) rfl (by kernel_rfl) (by kernel_rfl) (by kernel_rfl) (fun _ _ _ h => h) (Or.inl ⟨by rfl, ?yy29_26⟩) (by assumption) ?rr29_26
              case yy29_26 => (intro w hSw; (try dsimp only at hSw); obtain ⟨hs0, hs1⟩ := hSw; (try simp only [List.getElem_toArray, List.getElem_cons_succ, List.getElem_cons_zero, Act.put, List.setIfInBounds_toArray, List.set_cons_zero, List.set_cons_succ]); go_simp; (try (with_reducible rfl)))
              try simp only [List.getElem_toArray, List.getElem_cons_succ, List.getElem_cons_zero, Act.put, List.setIfInBounds_toArray, List.set_cons_zero, List.set_cons_succ]
              refine wpAnyH_take (i := 30) (v := ?vv30_27) rfl (by kernel_rfl) (by kernel_rfl) (by kernel_rfl) (fun _ _ _ h => h) (Or.inl ⟨by rfl, ?yy30_27⟩) (by assumption) ?rr30_27
              case yy30_27 => (intro w hSw; (try dsimp only at hSw); obtain ⟨hs0, hs1⟩ := hSw; (try simp only [List.getElem_toArray, List.getElem_cons_succ, List.getElem_cons_zero, Act.put, List.setIfInBounds_toArray, List.set_cons_zero, List.set_cons_succ]); go_simp; (try (with_reducible rfl)))
              try simp only [List.getElem_toArray, List.getElem_cons_succ, List.getElem_cons_zero, Act.put, List.setIfInBounds_toArray, List.set_cons_zero, List.set_cons_succ]
              refine wpAnyH_take (i := 31) (v := ?vv31_28) rfl (by kernel_rfl) (by kernel_rfl) (by kernel_rfl) (fun _ _ _ h => h) (Or.inl ⟨by rfl, ?yy31_28⟩) (by assumption) ?rr31_28
              case yy31_28 => (intro w hSw; (try dsimp only at hSw); obtain ⟨hs0, hs1⟩ := hSw; (try simp only [List.getElem_toArray, List.getElem_cons_succ, List.getElem_cons_zero, Act.put, List.setIfInBounds_toArray, List.set_cons_zero, List.set_cons_succ]); go_simp; (try (with_reducible rfl)))
              try simp only [List.getElem_toArray, List.getElem_cons_succ, List.getElem_cons_zero, Act.put, List.setIfInBounds_toArray, List.set_cons_zero, List.set_cons_succ]
              refine wpAnyH_take (i := 32) (v := ?vv32_29) rfl (by kernel_rfl) (by kernel_rfl) (by kernel_rfl) (fun _ _ _ h => h) (Or.inl ⟨by rfl, ?yy32_29⟩) (by assumption) ?rr32_29
              case yy32_29 => (intro w hSw; (try dsimp only at hSw); obtain ⟨hs0, hs1⟩ := hSw; (try simp only [List.getElem_toArray, List.getElem_cons_succ, List.getElem_cons_zero, Act.put, List.setIfInBounds_toArray, List.set_cons_zero, List.set_cons_succ]); go_simp; (try (with_reducible rfl)))
              try simp only [List.getElem_toArray, List.getElem_cons_succ, List.getElem_cons_zero, Act.put, List.setIfInBounds_toArray, List.set_cons_zero, List.set_cons_succ]
              refine wpAnyH_take (i := 33) (v := ?vv33_30) rfl (by kernel_rfl) (by kernel_rfl) (by kernel_rfl) (fun _ _ _ h => h) (Or.inl ⟨by rfl, ?yy33_30⟩) (by assumption) ?rr33_30
              case yy33_30 => (intro w hSw; (try dsimp only at hSw); obtain ⟨hs0, hs1⟩ := hSw; (try simp only [List.getElem_toArray, List.getElem_cons_succ, List.getElem_cons_zero, Act.put, List.setIfInBounds_toArray, List.set_cons_zero, List.set_cons_succ]); go_simp; (try (with_reducible rfl)))
              try simp only [List.getElem_toArray, List.getElem_cons_succ, List.getElem_cons_zero, Act.put, List.setIfInBounds_toArray, List.set_cons_zero, List.set_cons_succ]
              have HSU := Lib.hid (HKeep.out w8 (w8.alloc (.cells #[.int .u8 o.1.toNat, .string o.2] 51)) HS8.out ((Below.refl w8.heap.size w8).alloc (Nat.le_refl _) _))
              have HPA := Lib.hid (HP8.out.alloc (.cells #[.int .u8 o.1.toNat, .string o.2] 51))
              have HBA := Lib.hid (HB8.out.alloc HB8.out.size (.cells #[.int .u8 o.1.toNat, .string o.2] 51))
              have HRj := Lib.hid (rejected_any g (dropP q o) [o] (some ⟨w8.heap.size, 0, none⟩) 1 1 (w8.alloc (.cells #[.int .u8 o.1.toNat, .string o.2] 51)) HPA.out HMd.out (one_opt w8 o hS1) (by omega))
              rw [HJ.out.2.2.2.1, HJ.out.2.2.2.2.1] at HRj
              refine wpAnyH_ready (rs := [34]) (by kernel_rfl) (by simp) ?_
              refine AllReadyH.cons (o := _) rfl (fun K hK => ?_) AllReadyH.nil
              try simp only [List.getElem_toArray, List.getElem_cons_succ, List.getElem_cons_zero, Act.put, List.setIfInBounds_toArray, List.set_cons_zero, List.set_cons_succ]
              go_simp
              refine hK.out _ _ HSU.out (fun hHeld => ?_)
              clear hK K
              try simp only [List.getElem_toArray, List.getElem_cons_succ, List.getElem_cons_zero, Act.put, List.setIfInBounds_toArray, List.set_cons_zero, List.set_cons_succ]
              refine wpAnyH_ready (rs := [35]) (by kernel_rfl) (by simp) ?_
              refine AllReadyH.cons (o := _) rfl (fun K hK => ?_) AllReadyH.nil
              try simp only [List.getElem_toArray, List.getElem_cons_succ, List.getElem_cons_zero, Act.put, List.setIfInBounds_toArray, List.set_cons_zero, List.set_cons_succ]
              go_simp
              refine HRj.out.mono ?_
              rintro e w9 ⟨rfl, hp9, hm9⟩
              have HP9 := Lib.hid hp9
              have HB9 := Lib.hid (HBA.out.trans (hm9.below HBA.out.size (fun k e => by rw [e]; exact HG6.out)))
              have HS9 := Lib.hid (HTurn.out _ _ _ HSU.out HPA.out hm9)
              clear hp9 hm9 HRj HSU HPA HBA HP8 HB8 HS8 HO8
              refine hK.out _ _ HS9.out (fun hHeld => ?_)
              clear hK K
              try simp only [List.getElem_toArray, List.getElem_cons_succ, List.getElem_cons_zero, Act.put, List.setIfInBounds_toArray, List.set_cons_zero, List.set_cons_succ]
              refine wpAnyH_take (i := 36) (v := ?vv36_31) rfl (by kernel_rfl) (by kernel_rfl) (by kernel_rfl) (fun _ _ _ h => h) (Or.inl ⟨by rfl, ?yy36_31⟩) (by assumption) ?rr36_31
              case yy36_31 => (intro w hSw; (try dsimp only at hSw); obtain ⟨hs0, hs1⟩ := hSw; (try simp only [List.getElem_toArray, List.getElem_cons_succ, List.getElem_cons_zero, Act.put, List.setIfInBounds_toArray, List.set_cons_zero, List.set_cons_succ]); go_simp; (try (with_reducible rfl)))
              try simp only [List.getElem_toArray, List.getElem_cons_succ, List.getElem_cons_zero, Act.put, List.setIfInBounds_toArray, List.set_cons_zero, List.set_cons_succ]
              refine wpAnyH_done (by kernel_rfl) ?_ _
              go_upto_region 24 with (fail)
              have HFar : Hid (∀ W W' b, (W.cell? (ad.add (k * 2)) = some (.int .u8 o.1.toNat) ∧ W.cell? ⟨(ad.add (k * 2)).block, (ad.add (k * 2)).off + 1, none⟩ = some (.string o.2)) → (ad.add (k * 2)).block < b → Moves (fun j => j = b) W W' → (W'.cell? (ad.add (k * 2)) = some (.int .u8 o.1.toNat) ∧ W'.cell? ⟨(ad.add (k * 2)).block, (ad.add (k * 2)).off + 1, none⟩ = some (.string o.2))) := fun W W' b h hb hm => ⟨(hm.cell (World.block_lt_of_cell? W _ h.1) (Nat.ne_of_lt hb)).trans h.1, (hm.cell (World.block_lt_of_cell? W _ h.2) (Nat.ne_of_lt hb)).trans h.2⟩
              refine wp_region_held_drew (S := (fun w' => w'.cell? (ad.add (k * 2)) = some (.int .u8 o.1.toNat) ∧ w'.cell? ⟨(ad.add (k * 2)).block, (ad.add (k * 2)).off + 1, none⟩ = some (.string o.2))) (by kernel_rfl) HS9.out (fun hHeld => ?_)
              have HPu : Hid (PAt w9.drew g (dropP q o)) := HP9.out
              have HBu : Hid (Below w.heap.size w w9.drew) := HB9.out.drew
              have HSu : Hid (w9.drew.cell? (ad.add (k * 2)) = some (.int .u8 o.1.toNat) ∧ w9.drew.cell? ⟨(ad.add (k * 2)).block, (ad.add (k * 2)).off + 1, none⟩ = some (.string o.2)) := HS9.out
              clear HP9 HB9 HS9 HTurn
              generalize w9.drew = Y at *
              have HBl : Hid ((ad.add (k * 2)).block < Y.heap.size) := World.block_lt_of_cell? Y _ HSu.out.1
              refine wpAnyH_take (i := 0) (v := ?vv0_32) rfl (by kernel_rfl) (by kernel_rfl) (by kernel_rfl) (fun _ _ _ h => h) (Or.inl ⟨by rfl, ?yy0_32⟩) (by assumption) ?rr0_32
              case yy0_32 => (intro w hSw; (try dsimp only at hSw); obtain ⟨hs0, hs1⟩ := hSw; (try simp only [List.getElem_toArray, List.getElem_cons_succ, List.getElem_cons_zero, Act.put, List.setIfInBounds_toArray, List.set_cons_zero, List.set_cons_succ]); go_simp; (try (with_reducible rfl)))
              try simp only [List.getElem_toArray, List.getElem_cons_succ, List.getElem_cons_zero, Act.put, List.setIfInBounds_toArray, List.set_cons_zero, List.set_cons_succ]
              refine wpAnyH_take (i := 1) (v := ?vv1_33) rfl (by kernel_rfl) (by kernel_rfl) (by kernel_rfl) (fun _ _ _ h => h) (Or.inl ⟨by rfl, ?yy1_33⟩) (by assumption) ?rr1_33
              case yy1_33 => (intro w hSw; (try dsimp only at hSw); obtain ⟨hs0, hs1⟩ := hSw; (try simp only [List.getElem_toArray, List.getElem_cons_succ, List.getElem_cons_zero, Act.put, List.setIfInBounds_toArray, List.set_cons_zero, List.set_cons_succ]); go_simp; (try (with_reducible rfl)))
              try simp only [List.getElem_toArray, List.getElem_cons_succ, List.getElem_cons_zero, Act.put, List.setIfInBounds_toArray, List.set_cons_zero, List.set_cons_succ]
              refine wpAnyH_take (i := 2) (v := ?vv2_34) rfl (by kernel_rfl) (by kernel_rfl) (by kernel_rfl) (fun _ _ _ h => h) (Or.inl ⟨by rfl, ?yy2_34⟩) (by assumption) ?rr2_34
              case yy2_34 => (intro w hSw; (try dsimp only at hSw); obtain ⟨hs0, hs1⟩ := hSw; (try simp only [List.getElem_toArray, List.getElem_cons_succ, List.getElem_cons_zero, Act.put, List.setIfInBounds_toArray, List.set_cons_zero, List.set_cons_succ]); go_simp; (try (with_reducible rfl)))
              try simp only [List.getElem_toArray, List.getElem_cons_succ, List.getElem_cons_zero, Act.put, List.setIfInBounds_toArray, List.set_cons_zero, List.set_cons_succ]
              refine wpAnyH_take (i := 3) (v := ?vv3_35) rfl (by kernel_rfl) (by kernel_rfl) (by kernel_rfl) (fun _ _ _ h => h) (Or.inl ⟨by rfl, ?yy3_35⟩) (by assumption) ?rr3_35
              case yy3_35 => (intro w hSw; (try dsimp only at hSw); obtain ⟨hs0, hs1⟩ := hSw; (try simp only [List.getElem_toArray, List.getElem_cons_succ, List.getElem_cons_zero, Act.put, List.setIfInBounds_toArray, List.set_cons_zero, List.set_cons_succ]); go_simp; (try (with_reducible rfl)))
              try simp only [List.getElem_toArray, List.getElem_cons_succ, List.getElem_cons_zero, Act.put, List.setIfInBounds_toArray, List.set_cons_zero, List.set_cons_succ]
              refine wpAnyH_take (i := 4) (v := ?vv4_36) rfl (by kernel_rfl) (by kernel_rfl) (by kernel_rfl) (fun _ _ _ h => h) (Or.inl ⟨by rfl, ?yy4_36⟩) (by assumption) ?rr4_36
              case yy4_36 => (intro w hSw; (try dsimp only at hSw); obtain ⟨hs0, hs1⟩ := hSw; (try simp only [List.getElem_toArray, List.getElem_cons_succ, List.getElem_cons_zero, Act.put, List.setIfInBounds_toArray, List.set_cons_zero, List.set_cons_succ]); go_simp; (try (with_reducible rfl)))
              try simp only [List.getElem_toArray, List.getElem_cons_succ, List.getElem_cons_zero, Act.put, List.setIfInBounds_toArray, List.set_cons_zero, List.set_cons_succ]
              refine wpAnyH_take (i := 5) (v := ?vv5_37) rfl (by kernel_rfl) (by kernel_rfl) (by kernel_rfl) (fun _ _ _ h => h) (Or.inl ⟨by rfl, ?yy5_37⟩) (by assumption) ?rr5_37
              case yy5_37 => (intro w hSw; (try dsimp only at hSw); obtain ⟨hs0, hs1⟩ := hSw; (try simp only [List.getElem_toArray, List.getElem_cons_succ, List.getElem_cons_zero, Act.put, List.setIfInBounds_toArray, List.set_cons_zero, List.set_cons_succ]); go_simp; (try (with_reducible rfl)))
              try simp only [List.getElem_toArray, List.getElem_cons_succ, List.getElem_cons_zero, Act.put, List.setIfInBounds_toArray, List.set_cons_zero, List.set_cons_succ]
              refine wpAnyH_ready (rs := [6, 11]) (by kernel_rfl) (by simp) ?_
              refine AllReadyH.cons (o := _) rfl (fun K hK => ?_) (AllReadyH.cons (o := _) rfl (fun K hK => ?_) AllReadyH.nil)
              · try simp only [List.getElem_toArray, List.getElem_cons_succ, List.getElem_cons_zero, Act.put, List.setIfInBounds_toArray, List.set_cons_zero, List.set_cons_succ]
                go_simp
                refine (request_any g _ Y HPu.out HMd.out).mono ?_
                rintro e v1 ⟨A9, c9, rfl, hO9, hb9, _, _⟩
                rw [HLQ.out] at hO9 ⊢
                have HO9 := Lib.hid hO9
                have HB10 := Lib.hid (HBu.out.trans (hb9.mono HBu.out.size))
                have HS10 := Lib.hid (HKeep.out _ _ HSu.out hb9)
                have HL10 : Hid (Y.heap.size ≤ v1.heap.size) := hb9.size
                refine hK.out _ _ HS10.out (fun hHeld => ?_)
                clear hK K
                try simp only [List.getElem_toArray, List.getElem_cons_succ, List.getElem_cons_zero, Act.put, List.setIfInBounds_toArray, List.set_cons_zero, List.set_cons_succ]
                refine wpAnyH_ready (rs := [7, 11]) (by kernel_rfl) (by simp) ?_
                refine AllReadyH.cons (o := _) rfl (fun K hK => ?_) (AllReadyH.cons (o := _) rfl (fun K hK => ?_) AllReadyH.nil)
                · try simp only [List.getElem_toArray, List.getElem_cons_succ, List.getElem_cons_zero, Act.put, List.setIfInBounds_toArray, List.set_cons_zero, List.set_cons_succ]
                  go_simp
                  refine (rfind_any o.1 (req (dropP q o)) _ A9 lq c9 v1 HO9.out (by unfold maxLen; omega) (Nat.le_refl _)).mono ?_
                  rintro e v2 ⟨rfl, hb10⟩
                  rw [HJ.out.2.2.2.2.2]
                  have HB11 := Lib.hid (HB10.out.trans (hb10.mono HB10.out.size))
                  have HS11 := Lib.hid (HKeep.out _ _ HS10.out hb10)
                  have HL11 : Hid (v1.heap.size ≤ v2.heap.size) := hb10.size
                  refine hK.out _ _ HS11.out (fun hHeld => ?_)
                  clear hK K
                  try simp only [List.getElem_toArray, List.getElem_cons_succ, List.getElem_cons_zero, Act.put, List.setIfInBounds_toArray, List.set_cons_zero, List.set_cons_succ]
                  generalize Opt.fA o.1 (req (dropP q o)) = f at *
                  refine wpAnyH_take (i := 8) (v := ?vv8_38) rfl (by kernel_rfl) (by kernel_rfl) (by kernel_rfl) (fun _ _ _ h => h) (Or.inl ⟨by rfl, ?yy8_38⟩) (by assumption) ?rr8_38
                  case yy8_38 => (intro w hSw; (try dsimp only at hSw); obtain ⟨hs0, hs1⟩ := hSw; (try simp only [List.getElem_toArray, List.getElem_cons_succ, List.getElem_cons_zero, Act.put, List.setIfInBounds_toArray, List.set_cons_zero, List.set_cons_succ]); go_simp; (try (with_reducible rfl)))
                  try simp only [List.getElem_toArray, List.getElem_cons_succ, List.getElem_cons_zero, Act.put, List.setIfInBounds_toArray, List.set_cons_zero, List.set_cons_succ]
                  refine wpAnyH_take (i := 9) (v := ?vv9_39) rfl (by kernel_rfl) (by kernel_rfl) (by kernel_rfl) (fun _ _ _ h => h) (Or.inl ⟨by rfl, ?yy9_39⟩) (by assumption) ?rr9_39
                  case yy9_39 => (intro w hSw; (try dsimp only at hSw); obtain ⟨hs0, hs1⟩ := hSw; (try simp only [List.getElem_toArray, List.getElem_cons_succ, List.getElem_cons_zero, Act.put, List.setIfInBounds_toArray, List.set_cons_zero, List.set_cons_succ]); go_simp; (try (with_reducible rfl)))
                  try simp only [List.getElem_toArray, List.getElem_cons_succ, List.getElem_cons_zero, Act.put, List.setIfInBounds_toArray, List.set_cons_zero, List.set_cons_succ]
                  refine wpAnyH_take (i := 10) (v := ?vv10_40) rfl (by kernel_rfl) (by kernel_rfl) (by kernel_rfl) (fun _ _ _ h => h) (Or.inl ⟨by rfl, ?yy10_40⟩) (by assumption) ?rr10_40
                  case yy10_40 => (intro w hSw; (try dsimp only at hSw); obtain ⟨hs0, hs1⟩ := hSw; (try simp only [List.getElem_toArray, List.getElem_cons_succ, List.getElem_cons_zero, Act.put, List.setIfInBounds_toArray, List.set_cons_zero, List.set_cons_succ]); go_simp; (try (with_reducible rfl)))
                  try simp only [List.getElem_toArray, List.getElem_cons_succ, List.getElem_cons_zero, Act.put, List.setIfInBounds_toArray, List.set_cons_zero, List.set_cons_succ]
                  refine wpAnyH_ready (rs := [11]) (by kernel_rfl) (by simp) ?_
                  refine AllReadyH.cons (o := _) rfl (fun K hK => ?_) AllReadyH.nil
                  try simp only [List.getElem_toArray, List.getElem_cons_succ, List.getElem_cons_zero, Act.put, List.setIfInBounds_toArray, List.set_cons_zero, List.set_cons_succ]
                  go_simp
                  have HSa := Lib.hid (HKeep.out _ (v2.alloc (.cells #[.int .u8 0, .string ⟨#[]⟩] 51)) HS11.out ((Below.refl _ _).alloc (Nat.le_refl _) _))
                  refine hK.out _ _ HSa.out (fun hHeld => ?_)
                  clear hK K
                  try simp only [List.getElem_toArray, List.getElem_cons_succ, List.getElem_cons_zero, Act.put, List.setIfInBounds_toArray, List.set_cons_zero, List.set_cons_succ]
                  refine wpAnyH_ready (rs := [12]) (by kernel_rfl) (by simp) ?_
                  refine AllReadyH.cons (o := _) rfl (fun K hK => ?_) AllReadyH.nil
                  try simp only [List.getElem_toArray, List.getElem_cons_succ, List.getElem_cons_zero, Act.put, List.setIfInBounds_toArray, List.set_cons_zero, List.set_cons_succ]
                  go_simp
                  have HSe := Lib.hid (HKeep.out _ (v2.alloc (.cells #[.int .u8 f.1.toNat, .string f.2] 51)) HS11.out ((Below.refl _ _).alloc (Nat.le_refl _) _))
                  have HBe := Lib.hid (HB11.out.alloc HB11.out.size (.cells #[.int .u8 f.1.toNat, .string f.2] 51))
                  refine hK.out _ _ HSe.out (fun hHeld => ?_)
                  clear hK K
                  try simp only [List.getElem_toArray, List.getElem_cons_succ, List.getElem_cons_zero, Act.put, List.setIfInBounds_toArray, List.set_cons_zero, List.set_cons_succ]
                  refine wpAnyH_take (i := 13) (v := ?vv13_41) rfl (by kernel_rfl) (by kernel_rfl) (by kernel_rfl) (fun _ _ _ h => h) (Or.inl ⟨by rfl, ?yy13_41⟩) (by assumption) ?rr13_41
                  case yy13_41 => (intro w hSw; (try dsimp only at hSw); obtain ⟨hs0, hs1⟩ := hSw; (try simp only [List.getElem_toArray, List.getElem_cons_succ, List.getElem_cons_zero, Act.put, List.setIfInBounds_toArray, List.set_cons_zero, List.set_cons_succ]); go_simp; (try (with_reducible rfl)))
                  try simp only [List.getElem_toArray, List.getElem_cons_succ, List.getElem_cons_zero, Act.put, List.setIfInBounds_toArray, List.set_cons_zero, List.set_cons_succ]
                  refine wpAnyH_done (by kernel_rfl) ?_ _
                  go_wp2_with fail
                  refine (alive_any _).mono ?_
                  rintro e w99 ⟨rfl, hb99⟩
                  have HB99 := Lib.hid (HBe.out.trans (hb99.mono HBe.out.size))
                  clear hb99
                  go_wp2
                  go_ret
                  exact ⟨rfl, HB99.out⟩
                · try simp only [List.getElem_toArray, List.getElem_cons_succ, List.getElem_cons_zero, Act.put, List.setIfInBounds_toArray, List.set_cons_zero, List.set_cons_succ]
                  go_simp
                  have HSa := Lib.hid (HKeep.out _ (v1.alloc (.cells #[.int .u8 0, .string ⟨#[]⟩] 51)) HS10.out ((Below.refl _ _).alloc (Nat.le_refl _) _))
                  have HBa := Lib.hid (HB10.out.alloc HB10.out.size (.cells #[.int .u8 0, .string ⟨#[]⟩] 51))
                  have HZa : Hid (At (v1.alloc (.cells #[.int .u8 0, .string ⟨#[]⟩] 51)) v1.heap.size (0, ⟨#[]⟩)) := at_new v1 0 ⟨#[]⟩
                  have HOa := Lib.hid (HO9.out.laid (.cells #[.int .u8 0, .string ⟨#[]⟩] 51))
                  refine hK.out _ _ HSa.out (fun hHeld => ?_)
                  clear hK K
                  try simp only [List.getElem_toArray, List.getElem_cons_succ, List.getElem_cons_zero, Act.put, List.setIfInBounds_toArray, List.set_cons_zero, List.set_cons_succ]
                  refine wpAnyH_ready (rs := [7]) (by kernel_rfl) (by simp) ?_
                  refine AllReadyH.cons (o := _) rfl (fun K hK => ?_) AllReadyH.nil
                  try simp only [List.getElem_toArray, List.getElem_cons_succ, List.getElem_cons_zero, Act.put, List.setIfInBounds_toArray, List.set_cons_zero, List.set_cons_succ]
                  go_simp
                  refine (rfind_any o.1 (req (dropP q o)) _ A9 lq c9 (v1.alloc (.cells #[.int .u8 0, .string ⟨#[]⟩] 51)) HOa.out (by unfold maxLen; omega) (Nat.le_refl _)).mono ?_
                  rintro e v2 ⟨rfl, hb10⟩
                  rw [HJ.out.2.2.2.2.2]
                  have HB11 := Lib.hid (HBa.out.trans (hb10.mono HBa.out.size))
                  have HS11 := Lib.hid (HKeep.out _ _ HSa.out hb10)
                  have HL11 : Hid ((v1.alloc (.cells #[.int .u8 0, .string ⟨#[]⟩] 51)).heap.size ≤ v2.heap.size) := hb10.size
                  have HZ2 := Lib.hid (HZa.out.callee hb10)
                  have HBw : Hid (w.heap.size ≤ v1.heap.size) := HB10.out.size
                  have HLt : Hid ((ad.add (k * 2)).block < v1.heap.size) := Nat.lt_of_lt_of_le HBl.out HL10.out
                  refine hK.out _ _ HS11.out (fun hHeld => ?_)
                  clear hK K
                  try simp only [List.getElem_toArray, List.getElem_cons_succ, List.getElem_cons_zero, Act.put, List.setIfInBounds_toArray, List.set_cons_zero, List.set_cons_succ]
                  refine wpAnyH_take (i := 8) (v := ?vv8_42) rfl (by kernel_rfl) (by kernel_rfl) (by kernel_rfl) (fun _ _ _ h => h) (Or.inl ⟨by rfl, ?yy8_42⟩) (by assumption) ?rr8_42
                  case yy8_42 => (intro w hSw; (try dsimp only at hSw); obtain ⟨hs0, hs1⟩ := hSw; (try simp only [List.getElem_toArray, List.getElem_cons_succ, List.getElem_cons_zero, Act.put, List.setIfInBounds_toArray, List.set_cons_zero, List.set_cons_succ]); go_simp; (try (with_reducible rfl)))
                  try simp only [List.getElem_toArray, List.getElem_cons_succ, List.getElem_cons_zero, Act.put, List.setIfInBounds_toArray, List.set_cons_zero, List.set_cons_succ]
                  refine wpAnyH_take (i := 9) (v := ?vv9_43) rfl (by kernel_rfl) (by kernel_rfl) (by kernel_rfl) (fun _ _ _ h => h) (Or.inl ⟨by rfl, ?yy9_43⟩) (by assumption) ?rr9_43
                  case yy9_43 => (intro w hSw; (try dsimp only at hSw); obtain ⟨hs0, hs1⟩ := hSw; (try simp only [List.getElem_toArray, List.getElem_cons_succ, List.getElem_cons_zero, Act.put, List.setIfInBounds_toArray, List.set_cons_zero, List.set_cons_succ]); go_simp; (try (with_reducible rfl)))
                  try simp only [List.getElem_toArray, List.getElem_cons_succ, List.getElem_cons_zero, Act.put, List.setIfInBounds_toArray, List.set_cons_zero, List.set_cons_succ]
                  refine wpAnyH_take (i := 10) (v := ?vv10_44) rfl (by kernel_rfl) (by kernel_rfl) (by kernel_rfl) (fun _ _ _ h => h) (Or.inl ⟨by rfl, ?yy10_44⟩) (by assumption) ?rr10_44
                  case yy10_44 => (intro w hSw; (try dsimp only at hSw); obtain ⟨hs0, hs1⟩ := hSw; (try simp only [List.getElem_toArray, List.getElem_cons_succ, List.getElem_cons_zero, Act.put, List.setIfInBounds_toArray, List.set_cons_zero, List.set_cons_succ]); go_simp; (try (with_reducible rfl)))
                  try simp only [List.getElem_toArray, List.getElem_cons_succ, List.getElem_cons_zero, Act.put, List.setIfInBounds_toArray, List.set_cons_zero, List.set_cons_succ]
                  obtain ⟨y0, y1⟩ : _ ∧ _ := ⟨HZ2.out.c0, HZ2.out.c1⟩
                  have x0 := Blk.frozen HZ2.out 0
                  have x1 := Blk.frozen HZ2.out 1
                  generalize Opt.fA o.1 (req (dropP q o)) = f at *
                  refine wpAnyH_ready (rs := [12]) (by kernel_rfl) (by simp) ?_
                  refine AllReadyH.cons (o := _) rfl (fun K hK => ?_) AllReadyH.nil
                  try simp only [List.getElem_toArray, List.getElem_cons_succ, List.getElem_cons_zero, Act.put, List.setIfInBounds_toArray, List.set_cons_zero, List.set_cons_succ]
                  go_simp
                  have hmv : Moves (fun j => j = v1.heap.size) v2 ((v2.setCell ⟨v1.heap.size, 0, none⟩ (.int .u8 f.1.toNat)).setCell ⟨v1.heap.size, 1, none⟩ (.string f.2)) := (set_moves v2 v1.heap.size 0 _).trans (set_moves _ v1.heap.size 1 _) (fun _ _ h => h)
                  have HSe := Lib.hid (HFar.out _ _ v1.heap.size HS11.out HLt.out hmv)
                  have HBe := Lib.hid (HB11.out.trans (hmv.below HB11.out.size (fun k e => by rw [e]; exact HBw.out)))
                  refine hK.out _ _ HSe.out (fun hHeld => ?_)
                  clear hK K
                  try simp only [List.getElem_toArray, List.getElem_cons_succ, List.getElem_cons_zero, Act.put, List.setIfInBounds_toArray, List.set_cons_zero, List.set_cons_succ]
                  refine wpAnyH_take (i := 13) (v := ?vv13_45) rfl (by kernel_rfl) (by kernel_rfl) (by kernel_rfl) (fun _ _ _ h => h) (Or.inl ⟨by rfl, ?yy13_45⟩) (by assumption) ?rr13_45
                  case yy13_45 => (intro w hSw; (try dsimp only at hSw); obtain ⟨hs0, hs1⟩ := hSw; (try simp only [List.getElem_toArray, List.getElem_cons_succ, List.getElem_cons_zero, Act.put, List.setIfInBounds_toArray, List.set_cons_zero, List.set_cons_succ]); go_simp; (try (with_reducible rfl)))
                  try simp only [List.getElem_toArray, List.getElem_cons_succ, List.getElem_cons_zero, Act.put, List.setIfInBounds_toArray, List.set_cons_zero, List.set_cons_succ]
                  refine wpAnyH_done (by kernel_rfl) ?_ _
                  go_wp2_with fail
                  refine (alive_any _).mono ?_
                  rintro e w99 ⟨rfl, hb99⟩
                  have HB99 := Lib.hid (HBe.out.trans (hb99.mono HBe.out.size))
                  clear hb99
                  go_wp2
                  go_ret
                  exact ⟨rfl, HB99.out⟩
              · try simp only [List.getElem_toArray, List.getElem_cons_succ, List.getElem_cons_zero, Act.put, List.setIfInBounds_toArray, List.set_cons_zero, List.set_cons_succ]
                go_simp
                have HSa := Lib.hid (HKeep.out _ (Y.alloc (.cells #[.int .u8 0, .string ⟨#[]⟩] 51)) HSu.out ((Below.refl _ _).alloc (Nat.le_refl _) _))
                have HBa := Lib.hid (HBu.out.alloc HBu.out.size (.cells #[.int .u8 0, .string ⟨#[]⟩] 51))
                have HZa : Hid (At (Y.alloc (.cells #[.int .u8 0, .string ⟨#[]⟩] 51)) Y.heap.size (0, ⟨#[]⟩)) := at_new Y 0 ⟨#[]⟩
                have HPa := Lib.hid (HPu.out.alloc (.cells #[.int .u8 0, .string ⟨#[]⟩] 51))
                refine hK.out _ _ HSa.out (fun hHeld => ?_)
                clear hK K
                try simp only [List.getElem_toArray, List.getElem_cons_succ, List.getElem_cons_zero, Act.put, List.setIfInBounds_toArray, List.set_cons_zero, List.set_cons_succ]
                refine wpAnyH_ready (rs := [6]) (by kernel_rfl) (by simp) ?_
                refine AllReadyH.cons (o := _) rfl (fun K hK => ?_) AllReadyH.nil
                try simp only [List.getElem_toArray, List.getElem_cons_succ, List.getElem_cons_zero, Act.put, List.setIfInBounds_toArray, List.set_cons_zero, List.set_cons_succ]
                go_simp
                refine (request_any g _ (Y.alloc (.cells #[.int .u8 0, .string ⟨#[]⟩] 51)) HPa.out HMd.out).mono ?_
                rintro e v1 ⟨A9, c9, rfl, hO9, hb9, _, _⟩
                rw [HLQ.out] at hO9 ⊢
                have HO9 := Lib.hid hO9
                have HB10 := Lib.hid (HBa.out.trans (hb9.mono HBa.out.size))
                have HS10 := Lib.hid (HKeep.out _ _ HSa.out hb9)
                have HL10 : Hid ((Y.alloc (.cells #[.int .u8 0, .string ⟨#[]⟩] 51)).heap.size ≤ v1.heap.size) := hb9.size
                have HZ1 := Lib.hid (HZa.out.callee hb9)
                refine hK.out _ _ HS10.out (fun hHeld => ?_)
                clear hK K
                try simp only [List.getElem_toArray, List.getElem_cons_succ, List.getElem_cons_zero, Act.put, List.setIfInBounds_toArray, List.set_cons_zero, List.set_cons_succ]
                refine wpAnyH_ready (rs := [7]) (by kernel_rfl) (by simp) ?_
                refine AllReadyH.cons (o := _) rfl (fun K hK => ?_) AllReadyH.nil
                try simp only [List.getElem_toArray, List.getElem_cons_succ, List.getElem_cons_zero, Act.put, List.setIfInBounds_toArray, List.set_cons_zero, List.set_cons_succ]
                go_simp
                refine (rfind_any o.1 (req (dropP q o)) _ A9 lq c9 v1 HO9.out (by unfold maxLen; omega) (Nat.le_refl _)).mono ?_
                rintro e v2 ⟨rfl, hb10⟩
                rw [HJ.out.2.2.2.2.2]
                have HB11 := Lib.hid (HB10.out.trans (hb10.mono HB10.out.size))
                have HS11 := Lib.hid (HKeep.out _ _ HS10.out hb10)
                have HL11 : Hid (v1.heap.size ≤ v2.heap.size) := hb10.size
                have HZ2 := Lib.hid (HZ1.out.callee hb10)
                have HBw : Hid (w.heap.size ≤ Y.heap.size) := HBu.out.size
                refine hK.out _ _ HS11.out (fun hHeld => ?_)
                clear hK K
                try simp only [List.getElem_toArray, List.getElem_cons_succ, List.getElem_cons_zero, Act.put, List.setIfInBounds_toArray, List.set_cons_zero, List.set_cons_succ]
                refine wpAnyH_take (i := 8) (v := ?vv8_46) rfl (by kernel_rfl) (by kernel_rfl) (by kernel_rfl) (fun _ _ _ h => h) (Or.inl ⟨by rfl, ?yy8_46⟩) (by assumption) ?rr8_46
                case yy8_46 => (intro w hSw; (try dsimp only at hSw); obtain ⟨hs0, hs1⟩ := hSw; (try simp only [List.getElem_toArray, List.getElem_cons_succ, List.getElem_cons_zero, Act.put, List.setIfInBounds_toArray, List.set_cons_zero, List.set_cons_succ]); go_simp; (try (with_reducible rfl)))
                try simp only [List.getElem_toArray, List.getElem_cons_succ, List.getElem_cons_zero, Act.put, List.setIfInBounds_toArray, List.set_cons_zero, List.set_cons_succ]
                refine wpAnyH_take (i := 9) (v := ?vv9_47) rfl (by kernel_rfl) (by kernel_rfl) (by kernel_rfl) (fun _ _ _ h => h) (Or.inl ⟨by rfl, ?yy9_47⟩) (by assumption) ?rr9_47
                case yy9_47 => (intro w hSw; (try dsimp only at hSw); obtain ⟨hs0, hs1⟩ := hSw; (try simp only [List.getElem_toArray, List.getElem_cons_succ, List.getElem_cons_zero, Act.put, List.setIfInBounds_toArray, List.set_cons_zero, List.set_cons_succ]); go_simp; (try (with_reducible rfl)))
                try simp only [List.getElem_toArray, List.getElem_cons_succ, List.getElem_cons_zero, Act.put, List.setIfInBounds_toArray, List.set_cons_zero, List.set_cons_succ]
                refine wpAnyH_take (i := 10) (v := ?vv10_48) rfl (by kernel_rfl) (by kernel_rfl) (by kernel_rfl) (fun _ _ _ h => h) (Or.inl ⟨by rfl, ?yy10_48⟩) (by assumption) ?rr10_48
                case yy10_48 => (intro w hSw; (try dsimp only at hSw); obtain ⟨hs0, hs1⟩ := hSw; (try simp only [List.getElem_toArray, List.getElem_cons_succ, List.getElem_cons_zero, Act.put, List.setIfInBounds_toArray, List.set_cons_zero, List.set_cons_succ]); go_simp; (try (with_reducible rfl)))
                try simp only [List.getElem_toArray, List.getElem_cons_succ, List.getElem_cons_zero, Act.put, List.setIfInBounds_toArray, List.set_cons_zero, List.set_cons_succ]
                obtain ⟨y0, y1⟩ : _ ∧ _ := ⟨HZ2.out.c0, HZ2.out.c1⟩
                have x0 := Blk.frozen HZ2.out 0
                have x1 := Blk.frozen HZ2.out 1
                generalize Opt.fA o.1 (req (dropP q o)) = f at *
                refine wpAnyH_ready (rs := [12]) (by kernel_rfl) (by simp) ?_
                refine AllReadyH.cons (o := _) rfl (fun K hK => ?_) AllReadyH.nil
                try simp only [List.getElem_toArray, List.getElem_cons_succ, List.getElem_cons_zero, Act.put, List.setIfInBounds_toArray, List.set_cons_zero, List.set_cons_succ]
                go_simp
                have hmv : Moves (fun j => j = Y.heap.size) v2 ((v2.setCell ⟨Y.heap.size, 0, none⟩ (.int .u8 f.1.toNat)).setCell ⟨Y.heap.size, 1, none⟩ (.string f.2)) := (set_moves v2 Y.heap.size 0 _).trans (set_moves _ Y.heap.size 1 _) (fun _ _ h => h)
                have HSe := Lib.hid (HFar.out _ _ Y.heap.size HS11.out HBl.out hmv)
                have HBe := Lib.hid (HB11.out.trans (hmv.below HB11.out.size (fun k e => by rw [e]; exact HBw.out)))
                refine hK.out _ _ HSe.out (fun hHeld => ?_)
                clear hK K
                try simp only [List.getElem_toArray, List.getElem_cons_succ, List.getElem_cons_zero, Act.put, List.setIfInBounds_toArray, List.set_cons_zero, List.set_cons_succ]
                refine wpAnyH_take (i := 13) (v := ?vv13_49) rfl (by kernel_rfl) (by kernel_rfl) (by kernel_rfl) (fun _ _ _ h => h) (Or.inl ⟨by rfl, ?yy13_49⟩) (by assumption) ?rr13_49
                case yy13_49 => (intro w hSw; (try dsimp only at hSw); obtain ⟨hs0, hs1⟩ := hSw; (try simp only [List.getElem_toArray, List.getElem_cons_succ, List.getElem_cons_zero, Act.put, List.setIfInBounds_toArray, List.set_cons_zero, List.set_cons_succ]); go_simp; (try (with_reducible rfl)))
                try simp only [List.getElem_toArray, List.getElem_cons_succ, List.getElem_cons_zero, Act.put, List.setIfInBounds_toArray, List.set_cons_zero, List.set_cons_succ]
                refine wpAnyH_done (by kernel_rfl) ?_ _
                go_wp2_with fail
                refine (alive_any _).mono ?_
                rintro e w99 ⟨rfl, hb99⟩
                have HB99 := Lib.hid (HBe.out.trans (hb99.mono HBe.out.size))
                clear hb99
                go_wp2
                go_ret
                exact ⟨rfl, HB99.out⟩
  · clear hb HG hn
    go_wp2_with fail
    refine (alive_any _).mono ?_
    rintro e w99 ⟨rfl, hb99⟩
    have HB99 := Lib.hid (HB.out.trans (hb99.mono HB.out.size))
    clear hb99
    go_wp2
    go_ret
    exact ⟨rfl, HB99.out⟩

set_option maxRecDepth 100000 in
theorem lifted (os : Os) (started : os.Started) (H : Type) (enc : TypeId × Value → H) :
    ReturnsInHanded {} Tryz.checked os 4 .any (Rows.lcppolTakesSpec.pre6 enc Tryz.prog Tryz.f4 Rows.lcppolTakesRow.domain false) (Rows.lcppolTakesSpec.post enc Tryz.prog Tryz.f4 false true false false) := by
  refine returnsInHanded_of_change_sized (C := Tryz.checked) own started (by kernel_rfl) Tryz.func4
    (ChangeSpec.witness6 (enc := enc) (C := Tryz.checked) false ⟨#[], #[.agg #[.int .u16 0, .bool false, .int .u32 0, .int .u8 0, .int .u8 0, .int .u8 0, .bool false, .bool false, .bool false, .int .i64 0], .int .u32 0, .int .u32 0, .slice none 0 0], []⟩ 8 (by kernel_rfl) (by kernel_rfl) (by kernel_rfl) (by kernel_rfl)) ?_
  intro W base args ds gs before hval0 hW hcnd hsz0 _
  have hsz : (DataW.weightsEach Tryz.prog (Tryz.f4.params.toList ++ Rows.lcppolTakesSpec.plain.varTypes Tryz.prog) (ds ++ gs)).all (· ≤ reachBytes) = true := hsz0
  have hval : ∀ (j : Nat) t v, Tryz.f4.params[j]? = some t → args[j]? = some v → Value.okWide Tryz.prog W .any base t v := hval0
  have hW' := hW
  obtain ⟨p, q, hA0, hV, rfl, hfz, hnd⟩ := hW
  have hlt := hW'.lt
  have hA : DataW.TrodAll enc Tryz.prog W 0 (fun _ => true) true Tryz.f4.params.toList args.toList ds p := hA0
  rw [Tryz.params4] at hA hval hsz
  obtain ⟨v0, vs0, d0, ds0, p0, q0, hargs, rfl, rfl, h0, r0⟩ := trodAll_cons hA
  obtain ⟨v1, vs1, d1, ds1, p1, q1, rfl, rfl, rfl, h1, r1⟩ := trodAll_cons r0
  obtain ⟨v2, vs2, d2, ds2, p2, q2, rfl, rfl, rfl, h2, r2⟩ := trodAll_cons r1
  obtain ⟨v3, vs3, d3, ds3, p3, q3, rfl, rfl, rfl, h3, r3⟩ := trodAll_cons r2
  obtain ⟨rfl, rfl, rfl⟩ := trodAll_nil r3
  obtain rfl : args = #[v0, v1, v2, v3] := by cases args; simp_all
  obtain ⟨rfl, rfl⟩ := trodVars_none hV
  obtain ⟨a0, rfl⟩ := conf_of Tryz.underlying25 (by kernel_rfl) (by kernel_rfl) Tryz.underlying22 Tryz.underlying4 Tryz.underlying23 Tryz.underlying5 Tryz.underlying5 Tryz.underlying5 Tryz.underlying4 Tryz.underlying4 Tryz.underlying4 Tryz.underlying3 (hval 0 25 v0 rfl rfl) h0
  obtain ⟨z1, rfl, rfl, rfl, w1⟩ := open_int Tryz.underlying23 (hval 1 23 v1 rfl rfl) h1
  obtain ⟨a1, rfl⟩ := u32_of (z := z1) (bounds_u32 w1)
  obtain ⟨z2, rfl, rfl, rfl, w2⟩ := open_int Tryz.underlying23 (hval 2 23 v2 rfl rfl) h2
  obtain ⟨a2, rfl⟩ := u32_of (z := z2) (bounds_u32 w2)
  obtain ⟨A3, n3, c3, rfl, m3, hA3, l3, hO3⟩ := opts_of Tryz.underlying30 Tryz.underlying51 (by kernel_rfl) (by kernel_rfl) Tryz.underlying5 Tryz.underlying9 (hval 3 30 v3 rfl rfl) h3 (fun n hn => of_decide_eq_true (List.all_eq_true.1 hsz n (DataW.weights_mem_each (j := 3) (t := 30) rfl rfl n hn)))
  clear hA0 hval0 hsz0
  exact (walk a0 a1 a2 A3 n3 c3 l3 W m3 hO3).mono fun e W' ⟨he, hb⟩ => ⟨_, he, law_post (t := 4) laidOut (by kernel_rfl) rfl rfl Tryz.underlying4 ⟨rfl, rfl, rfl⟩ hW' hb⟩

theorem over : Rows.lcppolTakesRow.holds Tryz.pinned (OpenSpec.ofChange Rows.lcppolTakesSpec) :=
  OpenClaim.holds_of_wide 4 Tryz.f4 rfl rfl rfl rfl rfl rfl rfl ⟨rfl, rfl, rfl, rfl, rfl⟩ rfl rfl rfl rfl rfl (by kernel_rfl) Tryz.func4 (by kernel_rfl)
    (of_decide_eq_true (by kernel_rfl)) (by unfold Func.isWrapper; first | (rw [if_pos (by decide +kernel)]; kernel_rfl) | (rw [if_neg (by decide +kernel)]; exact ⟨rfl, rfl⟩))
    (fun os started H enc _ => lifted os started H enc)

theorem proved : Rows.LcppolTakesSaid :=
  over
#print axioms proved
end Go.Proofs.YtcncmddhjbnggaaGreat.LcppolTakes
