/- PROVED: 'halyardlaw15.IpcppolBoth' returns true for every two addresses and name servers, and whether they are asked for. No condition. -/
import Derived.Test.YtbkcdpfelkbhaaaIppW
import Derived.Test.YtbkcdpfelkbhaaaOptOf
import Derived.Test.YtbkcdpfelkbhaaaIppZ
import Derived.Test.YtbkcdpfelkbhaaaIppFa
import Derived.Test.YtbkcdpfelkbhaaaQuietS
import Derived.Test.YtbkcdpfelkbhaaaLaw
import Derived.Test.YtbkcdpfelkbhaaaRows
import Derived.SizedLaws
import Derived.Deep.QuietTactic
import Derived.Deep.Quiet
import Derived.BigQuiet
set_option linter.unusedSimpArgs false
set_option linter.unusedVariables false
namespace Go.Proofs.Ytbkcdpfelkbhaaa.IpcppolBoth
open Go.ChangeShapes Go.WideShapes Go.ChangeAt Go.RowKit Go.Proofs.Ytbkcdpfelkbhaaa.Oct Go.Proofs.Ytbkcdpfelkbhaaa.Row Go.Proofs.Ytbkcdpfelkbhaaa.Mem Go.Proofs.Ytbkcdpfelkbhaaa.Opt Go.Proofs.Ytbkcdpfelkbhaaa.Ipc Go.Proofs.Ytbkcdpfelkbhaaa.Law Go.Proofs.Ytbkcdpfelkbhaaa.Ipp
theorem own_ : ownKnob Try.prog.godebug = none := by kernel_rfl
theorem laidOut : laidOutB Try.prog = true := by kernel_rfl
/-- Two policies of the call's own. -/
structure Bs (w wr : World) (ga gb : Nat) (p q : Po) : Prop where
  pa : PAt wr ga p
  pb : PAt wr gb q
  ne : ga ≠ gb
  b : Below w.heap.size w wr
  la : w.heap.size ≤ ga
  lb : w.heap.size ≤ gb
theorem Bs.callee {w wr w' : World} {ga gb : Nat} {p q : Po} (h : Bs w wr ga gb p q) (hb : Below wr.heap.size wr w') : Bs w w' ga gb p q := ⟨h.pa.callee hb, h.pb.callee hb, h.ne, h.b.trans (hb.mono h.b.size), h.la, h.lb⟩
theorem Bs.ma {w wr w' : World} {ga gb : Nat} {p q p' : Po} (h : Bs w wr ga gb p q) (hm : Moves (fun k => k = ga) wr w') (hp : PAt w' ga p') : Bs w w' ga gb p' q :=
  ⟨hp, h.pb.moves hm h.ne.symm, h.ne, h.b.trans (hm.below h.b.size (fun k e => by rw [e]; exact h.la)), h.la, h.lb⟩
theorem Bs.mb {w wr w' : World} {ga gb : Nat} {p q q' : Po} (h : Bs w wr ga gb p q) (hm : Moves (fun k => k = gb) wr w') (hp : PAt w' gb q') : Bs w w' ga gb p q' :=
  ⟨h.pa.moves hm h.ne, hp, h.ne, h.b.trans (hm.below h.b.size (fun k e => by rw [e]; exact h.lb)), h.la, h.lb⟩
/-- .. and a struct beside them. -/
structure Sy2 (w : World) (ga gb : Nat) (p q : Po) (bx : Nat) (y : Ipc) (wr : World) : Prop extends Bs w wr ga gb p q where
  y : LAt wr bx y
theorem Sy2.callee {w wr w' : World} {ga gb : Nat} {p q : Po} {bx : Nat} {y : Ipc} (h : Sy2 w ga gb p q bx y wr) (hb : Below wr.heap.size wr w') : Sy2 w ga gb p q bx y w' := ⟨h.toBs.callee hb, h.y.callee hb⟩
theorem Sy2.ma {w wr w' : World} {ga gb : Nat} {p q p' : Po} {bx : Nat} {y : Ipc} (h : Sy2 w ga gb p q bx y wr) (hm : Moves (fun k => k = ga) wr w') (hp : PAt w' ga p') : Bs w w' ga gb p' q := h.toBs.ma hm hp
theorem Sy2.mb {w wr w' : World} {ga gb : Nat} {p q q' : Po} {bx : Nat} {y : Ipc} (h : Sy2 w ga gb p q bx y wr) (hm : Moves (fun k => k = gb) wr w') (hp : PAt w' gb q') : Bs w w' ga gb p q' := h.toBs.mb hm hp
theorem sz_may {own give d1 d2 : UInt32} {want : Bool} {k : Nat} {p q : Po} (h : Sz own give d1 d2 want k p q) : may q.w = true := by
  obtain ⟨_, _, _, _, _, ⟨_, h⟩ | ⟨_, _, h⟩ | ⟨_, h⟩⟩ := h
  · rw [h, may_iff]; unfold u0; cases want <;> simp
  · rw [h, may_iff]; unfold u1; cases (want && d1 != 0) <;> cases (want && d2 != 0) <;> simp
  · rw [h]; exact may_u2 _ _ _ _
set_option maxHeartbeats 16000000 in
set_option maxRecDepth 100000 in
theorem walk (own give d1 d2 : UInt32) (want : Bool) (w : World) :
    Calls Try.prog 6 #[.int .u32 own.toNat, .int .u32 give.toNat, .int .u32 d1.toNat, .int .u32 d2.toNat, .bool want] w fun e w' => e = .returned (.bool true) ∧ Below w.heap.size w w' := by
  have ho := u32_eq0 own
  have hg := u32_eq0 give
  by_cases h0 : own = 0 ∨ give = 0
  · by_cases h1 : own = 0
    · rw [show (own == 0) = true from by rw [h1]; rfl] at ho
      clear h0 h1 hg
      go_enter Try.func6, Try.ntmps6
      go_wp2_with fail
      refine (alive_any _).mono ?_
      rintro e w2 ⟨rfl, hb2⟩
      have HB2 := Lib.hid hb2
      clear hb2
      go_wp2
      go_ret
      exact ⟨rfl, HB2.out⟩
    · have h2 : give = 0 := h0.resolve_left h1
      rw [show (own == 0) = false from beq_eq_false_iff_ne.2 h1] at ho
      rw [show (give == 0) = true from by rw [h2]; rfl] at hg
      clear h0 h1 h2
      go_enter Try.func6, Try.ntmps6
      go_wp2_with fail
      refine (alive_any _).mono ?_
      rintro e w2 ⟨rfl, hb2⟩
      have HB2 := Lib.hid hb2
      clear hb2
      go_wp2
      go_ret
      exact ⟨rfl, HB2.out⟩
  · have h1 : own ≠ 0 := fun e => h0 (.inl e)
    have h2 : give ≠ 0 := fun e => h0 (.inr e)
    rw [show (own == 0) = false from beq_eq_false_iff_ne.2 h1] at ho
    rw [show (give == 0) = false from beq_eq_false_iff_ne.2 h2] at hg
    have HO := Lib.hid h1
    have HG := Lib.hid h2
    clear h0 h1 h2
    have NA : Hid (∀ w, Calls Try.prog 19 #[.agg #[Value.int .u32 own.toNat, .int .u32 give.toNat, .int .u32 d1.toNat, .int .u32 d2.toNat, .bool false, .int .i64 5]] w (NewQ (newP (ca own give d1 d2)) w)) := fun w => new_ok (ca own give d1 d2) w rfl
    have NB : Hid (∀ w, Calls Try.prog 19 #[.agg #[Value.int .u32 0, .int .u32 0, .int .u32 0, .int .u32 0, .bool want, .int .i64 5]] w (NewQ (newP (cb want)) w)) := fun w => new_ok (cb want) w rfl
    go_enter Try.func6, Try.ntmps6
    go_wp2_with fail
    refine (NA.out _).mono ?_
    rintro e w1 ⟨ga, rfl, hga, hpa, hb1⟩
    have HPA := Lib.hid hpa
    have HB1 := Lib.hid hb1
    have HLA := Lib.hid hga
    clear hga hpa hb1 NA
    go_wp2_with fail
    refine (NB.out _).mono ?_
    rintro e w2 ⟨gb, rfl, hgb, hpb, hb2⟩
    have H0 : Hid (Bs w w2 ga gb (newP (ca own give d1 d2)) (newP (cb want))) := ⟨HPA.out.callee hb2, hpb, Nat.ne_of_lt (Nat.lt_of_lt_of_le HPA.out.lt hgb), HB1.out.trans (hb2.mono HB1.out.size), HLA.out, Nat.le_trans HB1.out.size hgb⟩
    have HS0 : Hid (Sz own give d1 d2 want 0 (newP (ca own give d1 d2)) (newP (cb want))) := ⟨rfl, rfl, Nat.le_refl _, rfl, rfl, .inl ⟨rfl, rfl⟩⟩
    clear hgb hpb hb2 NB HPA HB1 HLA
    generalize newP (ca own give d1 d2) = p at *
    generalize newP (cb want) = q at *
    go_wp2_with fail
    go_loopw [15] (fun i wr => ∃ (k : Nat) (p' q' : Po), k ≤ 2 ∧ i = .int .i64 k ∧ Hid (Bs w wr ga gb p' q') ∧ Hid (Sz own give d1 d2 want k p' q')) (fun i _ => 4 - (intOf i).toNat)
    case atStart => exact ⟨0, p, q, by omega, rfl, H0, HS0⟩
    case round =>
      obtain ⟨k, p', q', hk, rfl, HM, HS⟩ := hrel
      clear H0 HS0
      have hk1 : (k : Int) < 4 := by omega
      have hk2 := decide_eq_true hk1
      have HMQ := Lib.hid (sz_may HS.out)
      have HR := Lib.hid (request_room gb q' wr HM.out.pb HMQ.out)
      go_wp2_with fail
      refine HR.out.mono ?_
      rintro e w1' ⟨A1, c1, rfl, hO1, hb1, _, hA1⟩
      have HM1 := Lib.hid (HM.out.callee hb1)
      have HO1 := Lib.hid hO1
      have HA1 := Lib.hid hA1
      have hl3 : (req q').length ≤ 3 := put_len q'.w
      clear hO1 hb1 hA1 HR HM
      obtain ⟨m1, hm1⟩ : ∃ m1, (req q').length = m1 := ⟨_, rfl⟩
      rw [hm1] at HO1 hl3 ⊢
      have hst0 := sz_step HS.out HG.out
      have HJ := Lib.hid (judge_any ga p' (req q') A1 m1 c1 w1' HM1.out.pa HO1.out HA1.out (by omega) (by have := HS.out.2.2.1; omega))
      clear hm1
      go_wp2_with fail
      refine HJ.out.mono ?_
      rintro e w2 ⟨A2, q2c, rfl, hO2, hp2, hm2⟩
      have HN2 := Lib.hid (HM1.out.ma hm2 hp2)
      have HX2 := Lib.hid hO2
      have hjl : (jA p' (req q')).length ≤ 6 := by
        have := waysOf p' (req q')
        have h3 : (req q').length ≤ 3 := put_len q'.w
        rcases this with ⟨_, h⟩ | ⟨_, _, _, _, _, h⟩ | ⟨_, _, _, h, _⟩
        · omega
        · omega
        · rw [h]; omega
      clear hO2 hp2 hm2 HJ HM1 HO1 HA1
      obtain ⟨m2, hm2⟩ : ∃ m2, (jA p' (req q')).length = m2 := ⟨_, rfl⟩
      rw [hm2] at HX2 hjl ⊢
      rcases hst0 with ⟨hC, hkk, hb, hst⟩ | ⟨hC, hkk, hb, hst⟩ | ⟨hC, ha, hqw, hpe⟩
      · rw [hC]
        clear hC hm2 HS
        have HK := Lib.hid (rejected_any gb q' (jA p' (req q')) A2 m2 q2c w2 HN2.out.pb HMQ.out HX2.out (by omega))
        go_wp2_with fail
        refine HK.out.mono ?_
        rintro e w3 ⟨rfl, hp3, hm3⟩
        rw [hb]
        have HN3 := Lib.hid (HN2.out.mb hm3 hp3)
        have HSt := Lib.hid hst
        have hk3 : ((k : Int) == 3) = false := by rw [beq_eq_false_iff_ne]; omega
        clear hp3 hm3 HK HN2 HX2 hb hst
        go_wp2
        go_roundw
        case rel => exact ⟨k + 1, _, _, by omega, by go_num, HN3, HSt⟩
        case measure => simp [intOf]; omega
      · rw [hC]
        clear hC hm2 HS
        have HK := Lib.hid (naked_any gb q' (jA p' (req q')) A2 m2 q2c w2 HN2.out.pb HMQ.out HX2.out (by omega))
        go_wp2_with fail
        refine HK.out.mono ?_
        rintro e w3 ⟨rfl, hp3, hm3⟩
        rw [hb]
        have HN3 := Lib.hid (HN2.out.mb hm3 hp3)
        have HSt := Lib.hid hst
        have hk3 : ((k : Int) == 3) = false := by rw [beq_eq_false_iff_ne]; omega
        clear hp3 hm3 HK HN2 HX2 hb hst
        go_wp2
        go_roundw
        case rel => exact ⟨k + 1, _, _, by omega, by go_num, HN3, HSt⟩
        case measure => simp [intOf]; omega
      · rw [hC]
        rw [ha] at HX2
        have hak : akB q' (req q') = true := decide_eq_true rfl
        have hak2 : akP q' (req q') = { q' with mine := q'.w } := by unfold akP; rw [hak]; rfl
        have HK := Lib.hid (acked_any gb q' (req q') A2 m2 q2c w2 HN2.out.pb HMQ.out HX2.out (by omega))
        rw [hak, hak2] at HK
        obtain ⟨j1, j2, _, _⟩ := jP_w p' (req q')
        have KP : Hid ((jP p' (req q')).w = ⟨true, own, false, 0, false, 0⟩ ∧ (jP p' (req q')).peer = u2 give want d1 d2) := ⟨by rw [j1]; exact HS.out.2.1, hpe⟩
        have KQ : Hid (({ q' with mine := q'.w } : Po).mine = u2 give want d1 d2 ∧ ({ q' with mine := q'.w } : Po).naks = 0 ∧ ({ q' with mine := q'.w } : Po).c = cb want) := ⟨hqw, HS.out.2.2.2.2.1, HS.out.2.2.2.1⟩
        clear hC ha hqw hpe hak hak2 hm2 HS j1 j2 HMQ hjl hl3
        generalize ({ q' with mine := q'.w } : Po) = q2 at *
        generalize jP p' (req q') = p2 at *
        have KB := Lib.hid (sz_back KP.out.1 KQ.out.2.2 HO.out)
        go_wp2_with fail
        refine HK.out.mono ?_
        rintro e w3 ⟨rfl, hp3, hm3⟩
        have HN3 := Lib.hid (HN2.out.mb hm3 hp3)
        clear hp3 hm3 HK HN2 HX2
        obtain ⟨y2, y3, y4, y5, hu, k2, k3, k4, k5⟩ : ∃ y2 y3 y4 y5, u2 give want d1 d2 = ⟨true, give, y2, y3, y4, y5⟩ ∧ y2 = (want && d1 != 0) ∧ (y2 = true → y3 = d1) ∧ y4 = (want && d2 != 0) ∧ (y4 = true → y5 = d2) := ⟨_, _, _, _, rfl, rfl, fun h => if_pos h, rfl, fun h => if_pos h⟩
        rw [hu] at KP KQ
        clear hu
        replace k2 := Lib.hid k2
        replace k4 := Lib.hid k4
        have HMi : Hid (∀ U, PAt U gb q2 → Calls Try.prog 15 #[.pointer (some ⟨gb, 0, none⟩)] U fun e w' => e = .returned (.agg #[Value.bool true, .int .u32 give.toNat, .bool y2, .int .u32 y3.toNat, .bool y4, .int .u32 y5.toNat]) ∧ Below U.heap.size U w') := fun U hU => by
          have h := mine_any gb q2 U hU
          rw [KQ.out.1] at h
          exact h
        go_wp2_with fail
        refine (HMi.out _ HN3.out.pb).mono ?_
        rintro e w4 ⟨rfl, hb4⟩
        obtain ⟨w5, hW5, HV⟩ := boxL w4 ⟨true, give, y2, y3, y4, y5⟩
        have HS5 : Hid (Sy2 w ga gb p2 q2 w4.heap.size ⟨true, give, y2, y3, y4, y5⟩ w5) := ⟨(HN3.out.callee hb4).callee HV.out.2.1, HV.out.1⟩
        have KPe : Hid (p2.peer = ⟨true, give, y2, y3, y4, y5⟩) := KP.out.2
        clear hb4 HMi HN3 HV
        go_wp2_with fail
        clear hW5
        cases want
        · have h2 : y2 = false := k2.out
          have h4 : y4 = false := k4.out
          subst h2 h4
          clear k2 k3 k4 k5
          have HPC : Hid (∀ q : HeldW (fun w' => Sy2 w ga gb p2 q2 w4.heap.size ⟨true, give, false, y3, false, y5⟩ w'), Calls Try.prog 16 #[.pointer (some ⟨ga, 0, none⟩)] q.w fun e w' => e = .returned (.agg #[Value.bool true, .int .u32 give.toNat, .bool false, .int .u32 y3.toNat, .bool false, .int .u32 y5.toNat]) ∧ Sy2 w ga gb p2 q2 w4.heap.size ⟨true, give, false, y3, false, y5⟩ w') := fun q => by
            have h := peer_any ga p2 q.w q.h.pa
            rw [KPe.out] at h
            exact h.mono fun e w' ⟨he, hb⟩ => ⟨he, q.h.callee hb⟩
          have s0 : ∀ q : HeldW (fun w' => Sy2 w ga gb p2 q2 w4.heap.size ⟨true, give, false, y3, false, y5⟩ w'), q.w.cell? ⟨w4.heap.size, 0, none⟩ = some (Value.bool true) := fun q => q.h.y.c 0
          have s1 : ∀ q : HeldW (fun w' => Sy2 w ga gb p2 q2 w4.heap.size ⟨true, give, false, y3, false, y5⟩ w'), q.w.cell? ⟨w4.heap.size, 1, none⟩ = some (.int .u32 give.toNat) := fun q => q.h.y.c 1
          have s2 : ∀ q : HeldW (fun w' => Sy2 w ga gb p2 q2 w4.heap.size ⟨true, give, false, y3, false, y5⟩ w'), q.w.cell? ⟨w4.heap.size, 2, none⟩ = some (.bool false) := fun q => q.h.y.c 2
          have s3 : ∀ q : HeldW (fun w' => Sy2 w ga gb p2 q2 w4.heap.size ⟨true, give, false, y3, false, y5⟩ w'), q.w.cell? ⟨w4.heap.size, 3, none⟩ = some (.int .u32 y3.toNat) := fun q => q.h.y.c 3
          have s4 : ∀ q : HeldW (fun w' => Sy2 w ga gb p2 q2 w4.heap.size ⟨true, give, false, y3, false, y5⟩ w'), q.w.cell? ⟨w4.heap.size, 4, none⟩ = some (.bool false) := fun q => q.h.y.c 4
          have s5 : ∀ q : HeldW (fun w' => Sy2 w ga gb p2 q2 w4.heap.size ⟨true, give, false, y3, false, y5⟩ w'), q.w.cell? ⟨w4.heap.size, 5, none⟩ = some (.int .u32 y5.toNat) := fun q => q.h.y.c 5
          have hNq := fun w => ipc_neq (x := ⟨true, give, false, y3, false, y5⟩) (y := ⟨true, give, false, y3, false, y5⟩) (decide_eq_true rfl) w
          have hne : Nonempty (HeldW (fun w' => Sy2 w ga gb p2 q2 w4.heap.size ⟨true, give, false, y3, false, y5⟩ w')) := ⟨⟨w5.drew, (HS5.out.callee (Below.refl _ w5).drew)⟩⟩
          refine wp_region_quiet_shut (fun w' => Sy2 w ga gb p2 q2 w4.heap.size ⟨true, give, false, y3, false, y5⟩ w') (by kernel_rfl) (by kernel_rfl) (HS5.out.callee (Below.refl _ w5).drew) (fun G hst hnil => ?_)
          repeat (
            refine hst.out _ _ _ (fun K hK => ?_)
            go_simp
            first
              | (refine hK _ ?_; clear hK K)
              | (apply Exists.intro
                 refine ⟨fun _ => ?_, hK _ ?_⟩
                 (first
                   | (go_at_call 16; exact held_of (HPC.out _)))
                 clear hK K))
          refine hnil.out _ (fun q => ?_)
          clear hnil hst
          have HQ := Lib.hid q.h
          clear hNq HPC s0 s1 s2 s3 s4 s5
          have HR := Lib.hid (request_room ga p2 q.w q.h.pa (by rw [KP.out.1]; rfl))
          go_wp2_with fail
          refine HR.out.mono ?_
          rintro e v1 ⟨B1, b1, rfl, hO1, hb1, _, hA1⟩
          have G1 := Lib.hid (q.h.callee hb1)
          have GO := Lib.hid hO1
          have HA := Lib.hid hA1
          have hlq : (req p2).length ≤ 3 := put_len p2.w
          clear hO1 hb1 hA1 HR
          obtain ⟨mq, hmq⟩ : ∃ mq, (req p2).length = mq := ⟨_, rfl⟩
          rw [hmq] at GO hlq ⊢
          have HJ := Lib.hid (judge_at (m := mq) G1.out.pb GO.out HA.out (by omega) (by rw [KQ.out.2.1]; omega) KB.out.1 KB.out.2.1 hmq)
          go_wp2_with fail
          refine HJ.out.mono ?_
          rintro e v2 ⟨B2, b2, rfl, hO2, hp2, hm2⟩
          have G2 := Lib.hid (G1.out.mb hm2 hp2)
          have GO2 := Lib.hid hO2
          clear hO2 hp2 hm2 HJ G1 GO
          have HK := Lib.hid (acked_any ga p2 (req p2) B2 mq b2 v2 G2.out.pa (by rw [KP.out.1]; rfl) GO2.out (by omega))
          go_wp2_with fail
          refine HK.out.mono ?_
          rintro e v3 ⟨rfl, hp3, hm3⟩
          have hak : akB p2 (req p2) = true := decide_eq_true rfl
          have hak2 : akP p2 (req p2) = { p2 with mine := p2.w } := by unfold akP; rw [hak]; rfl
          rw [hak2] at hp3
          rw [hak]
          have G3 := Lib.hid (G2.out.ma hm3 hp3)
          clear hp3 hm3 HK G2 GO2 hak hak2
          have HMi : Hid (∀ U, PAt U ga { p2 with mine := p2.w } → Calls Try.prog 15 #[.pointer (some ⟨ga, 0, none⟩)] U fun e w' => e = .returned (.agg #[Value.bool true, .int .u32 own.toNat, .bool false, .int .u32 0, .bool false, .int .u32 0]) ∧ Below U.heap.size U w') := fun U hU => by
            have h := mine_any ga _ U hU
            rw [show ({ p2 with mine := p2.w } : Po).mine = ⟨true, own, false, 0, false, 0⟩ from KP.out.1] at h
            exact h
          have HPe : Hid (∀ U, PAt U gb (jP q2 (req p2)) → Calls Try.prog 16 #[.pointer (some ⟨gb, 0, none⟩)] U fun e w' => e = .returned (.agg #[Value.bool true, .int .u32 own.toNat, .bool false, .int .u32 0, .bool false, .int .u32 0]) ∧ Below U.heap.size U w') := fun U hU => by
            have h := peer_any gb _ U hU
            rw [KB.out.2.2] at h
            exact h
          generalize ({ p2 with mine := p2.w } : Po) = p3 at *
          generalize jP q2 (req p2) = q3 at *
          have hel := fun w => ipc_eql (x := ⟨true, own, false, 0, false, 0⟩) (y := ⟨true, own, false, 0, false, 0⟩) (decide_eq_true rfl) w
          have hfd : ∀ W : World, (Instr.field 35 (.agg #[Value.bool true, .int .u32 own.toNat, .bool false, .int .u32 0, .bool false, .int .u32 0]) 1).run Try.prog W = .ok (.int .u32 own.toNat) W := fun W => by kernel_rfl
          go_wp2_with fail
          refine (HMi.out _ G3.out.pa).mono ?_
          rintro e v4 ⟨rfl, hb4⟩
          have G4 := Lib.hid (G3.out.callee hb4)
          clear hb4 G3
          go_wp2_with fail
          refine (HPe.out _ G4.out.pb).mono ?_
          rintro e v5 ⟨rfl, hb5⟩
          have G5 := Lib.hid (G4.out.callee hb5)
          clear hb5 G4
          go_wp2_with fail
          refine (HMi.out _ G5.out.pa).mono ?_
          rintro e v6 ⟨rfl, hb6⟩
          have G6 := Lib.hid (G5.out.callee hb6)
          clear hb6 G5 HMi HPe
          go_wp2_with fail
          refine (alive_any _).mono ?_
          rintro e v7 ⟨rfl, hb7⟩
          have G7 := Lib.hid (G6.out.callee hb7)
          clear hb7 G6
          go_wp2
          go_ret
          exact ⟨rfl, G7.out.b⟩
        · have h2 : y2 = (d1 != 0) := k2.out
          have h4 : y4 = (d2 != 0) := k4.out
          have n1 := u32_ne0 d1
          have n2 := u32_ne0 d2
          rw [← h2] at n1
          rw [← h4] at n2
          clear h2 h4 k2 k4
          cases y2 <;> cases y4
          · clear k3 k5
            have HPC : Hid (∀ q : HeldW (fun w' => Sy2 w ga gb p2 q2 w4.heap.size ⟨true, give, false, y3, false, y5⟩ w'), Calls Try.prog 16 #[.pointer (some ⟨ga, 0, none⟩)] q.w fun e w' => e = .returned (.agg #[Value.bool true, .int .u32 give.toNat, .bool false, .int .u32 y3.toNat, .bool false, .int .u32 y5.toNat]) ∧ Sy2 w ga gb p2 q2 w4.heap.size ⟨true, give, false, y3, false, y5⟩ w') := fun q => by
              have h := peer_any ga p2 q.w q.h.pa
              rw [KPe.out] at h
              exact h.mono fun e w' ⟨he, hb⟩ => ⟨he, q.h.callee hb⟩
            have s0 : ∀ q : HeldW (fun w' => Sy2 w ga gb p2 q2 w4.heap.size ⟨true, give, false, y3, false, y5⟩ w'), q.w.cell? ⟨w4.heap.size, 0, none⟩ = some (Value.bool true) := fun q => q.h.y.c 0
            have s1 : ∀ q : HeldW (fun w' => Sy2 w ga gb p2 q2 w4.heap.size ⟨true, give, false, y3, false, y5⟩ w'), q.w.cell? ⟨w4.heap.size, 1, none⟩ = some (.int .u32 give.toNat) := fun q => q.h.y.c 1
            have s2 : ∀ q : HeldW (fun w' => Sy2 w ga gb p2 q2 w4.heap.size ⟨true, give, false, y3, false, y5⟩ w'), q.w.cell? ⟨w4.heap.size, 2, none⟩ = some (.bool false) := fun q => q.h.y.c 2
            have s3 : ∀ q : HeldW (fun w' => Sy2 w ga gb p2 q2 w4.heap.size ⟨true, give, false, y3, false, y5⟩ w'), q.w.cell? ⟨w4.heap.size, 3, none⟩ = some (.int .u32 y3.toNat) := fun q => q.h.y.c 3
            have s4 : ∀ q : HeldW (fun w' => Sy2 w ga gb p2 q2 w4.heap.size ⟨true, give, false, y3, false, y5⟩ w'), q.w.cell? ⟨w4.heap.size, 4, none⟩ = some (.bool false) := fun q => q.h.y.c 4
            have s5 : ∀ q : HeldW (fun w' => Sy2 w ga gb p2 q2 w4.heap.size ⟨true, give, false, y3, false, y5⟩ w'), q.w.cell? ⟨w4.heap.size, 5, none⟩ = some (.int .u32 y5.toNat) := fun q => q.h.y.c 5
            have hNq := fun w => ipc_neq (x := ⟨true, give, false, y3, false, y5⟩) (y := ⟨true, give, false, y3, false, y5⟩) (decide_eq_true rfl) w
            have hne : Nonempty (HeldW (fun w' => Sy2 w ga gb p2 q2 w4.heap.size ⟨true, give, false, y3, false, y5⟩ w')) := ⟨⟨w5.drew, (HS5.out.callee (Below.refl _ w5).drew)⟩⟩
            refine wp_region_quiet_shut (fun w' => Sy2 w ga gb p2 q2 w4.heap.size ⟨true, give, false, y3, false, y5⟩ w') (by kernel_rfl) (by kernel_rfl) (HS5.out.callee (Below.refl _ w5).drew) (fun G hst hnil => ?_)
            repeat (
              refine hst.out _ _ _ (fun K hK => ?_)
              go_simp
              first
                | (refine hK _ ?_; clear hK K)
                | (apply Exists.intro
                   refine ⟨fun _ => ?_, hK _ ?_⟩
                   (first
                     | (go_at_call 16; exact held_of (HPC.out _)))
                   clear hK K))
            refine hnil.out _ (fun q => ?_)
            clear hnil hst
            have HQ := Lib.hid q.h
            clear hNq HPC s0 s1 s2 s3 s4 s5
            have HR := Lib.hid (request_room ga p2 q.w q.h.pa (by rw [KP.out.1]; rfl))
            go_wp2_with fail
            refine HR.out.mono ?_
            rintro e v1 ⟨B1, b1, rfl, hO1, hb1, _, hA1⟩
            have G1 := Lib.hid (q.h.callee hb1)
            have GO := Lib.hid hO1
            have HA := Lib.hid hA1
            have hlq : (req p2).length ≤ 3 := put_len p2.w
            clear hO1 hb1 hA1 HR
            obtain ⟨mq, hmq⟩ : ∃ mq, (req p2).length = mq := ⟨_, rfl⟩
            rw [hmq] at GO hlq ⊢
            have HJ := Lib.hid (judge_at (m := mq) G1.out.pb GO.out HA.out (by omega) (by rw [KQ.out.2.1]; omega) KB.out.1 KB.out.2.1 hmq)
            go_wp2_with fail
            refine HJ.out.mono ?_
            rintro e v2 ⟨B2, b2, rfl, hO2, hp2, hm2⟩
            have G2 := Lib.hid (G1.out.mb hm2 hp2)
            have GO2 := Lib.hid hO2
            clear hO2 hp2 hm2 HJ G1 GO
            have HK := Lib.hid (acked_any ga p2 (req p2) B2 mq b2 v2 G2.out.pa (by rw [KP.out.1]; rfl) GO2.out (by omega))
            go_wp2_with fail
            refine HK.out.mono ?_
            rintro e v3 ⟨rfl, hp3, hm3⟩
            have hak : akB p2 (req p2) = true := decide_eq_true rfl
            have hak2 : akP p2 (req p2) = { p2 with mine := p2.w } := by unfold akP; rw [hak]; rfl
            rw [hak2] at hp3
            rw [hak]
            have G3 := Lib.hid (G2.out.ma hm3 hp3)
            clear hp3 hm3 HK G2 GO2 hak hak2
            have HMi : Hid (∀ U, PAt U ga { p2 with mine := p2.w } → Calls Try.prog 15 #[.pointer (some ⟨ga, 0, none⟩)] U fun e w' => e = .returned (.agg #[Value.bool true, .int .u32 own.toNat, .bool false, .int .u32 0, .bool false, .int .u32 0]) ∧ Below U.heap.size U w') := fun U hU => by
              have h := mine_any ga _ U hU
              rw [show ({ p2 with mine := p2.w } : Po).mine = ⟨true, own, false, 0, false, 0⟩ from KP.out.1] at h
              exact h
            have HPe : Hid (∀ U, PAt U gb (jP q2 (req p2)) → Calls Try.prog 16 #[.pointer (some ⟨gb, 0, none⟩)] U fun e w' => e = .returned (.agg #[Value.bool true, .int .u32 own.toNat, .bool false, .int .u32 0, .bool false, .int .u32 0]) ∧ Below U.heap.size U w') := fun U hU => by
              have h := peer_any gb _ U hU
              rw [KB.out.2.2] at h
              exact h
            generalize ({ p2 with mine := p2.w } : Po) = p3 at *
            generalize jP q2 (req p2) = q3 at *
            have hel := fun w => ipc_eql (x := ⟨true, own, false, 0, false, 0⟩) (y := ⟨true, own, false, 0, false, 0⟩) (decide_eq_true rfl) w
            have hfd : ∀ W : World, (Instr.field 35 (.agg #[Value.bool true, .int .u32 own.toNat, .bool false, .int .u32 0, .bool false, .int .u32 0]) 1).run Try.prog W = .ok (.int .u32 own.toNat) W := fun W => by kernel_rfl
            go_wp2_with fail
            refine (HMi.out _ G3.out.pa).mono ?_
            rintro e v4 ⟨rfl, hb4⟩
            have G4 := Lib.hid (G3.out.callee hb4)
            clear hb4 G3
            go_wp2_with fail
            refine (HPe.out _ G4.out.pb).mono ?_
            rintro e v5 ⟨rfl, hb5⟩
            have G5 := Lib.hid (G4.out.callee hb5)
            clear hb5 G4
            go_wp2_with fail
            refine (HMi.out _ G5.out.pa).mono ?_
            rintro e v6 ⟨rfl, hb6⟩
            have G6 := Lib.hid (G5.out.callee hb6)
            clear hb6 G5 HMi HPe
            go_wp2_with fail
            refine (alive_any _).mono ?_
            rintro e v7 ⟨rfl, hb7⟩
            have G7 := Lib.hid (G6.out.callee hb7)
            clear hb7 G6
            go_wp2
            go_ret
            exact ⟨rfl, G7.out.b⟩
          · obtain rfl : y5 = d2 := k5 rfl
            clear k3 k5
            have HPC : Hid (∀ q : HeldW (fun w' => Sy2 w ga gb p2 q2 w4.heap.size ⟨true, give, false, y3, true, y5⟩ w'), Calls Try.prog 16 #[.pointer (some ⟨ga, 0, none⟩)] q.w fun e w' => e = .returned (.agg #[Value.bool true, .int .u32 give.toNat, .bool false, .int .u32 y3.toNat, .bool true, .int .u32 y5.toNat]) ∧ Sy2 w ga gb p2 q2 w4.heap.size ⟨true, give, false, y3, true, y5⟩ w') := fun q => by
              have h := peer_any ga p2 q.w q.h.pa
              rw [KPe.out] at h
              exact h.mono fun e w' ⟨he, hb⟩ => ⟨he, q.h.callee hb⟩
            have s0 : ∀ q : HeldW (fun w' => Sy2 w ga gb p2 q2 w4.heap.size ⟨true, give, false, y3, true, y5⟩ w'), q.w.cell? ⟨w4.heap.size, 0, none⟩ = some (Value.bool true) := fun q => q.h.y.c 0
            have s1 : ∀ q : HeldW (fun w' => Sy2 w ga gb p2 q2 w4.heap.size ⟨true, give, false, y3, true, y5⟩ w'), q.w.cell? ⟨w4.heap.size, 1, none⟩ = some (.int .u32 give.toNat) := fun q => q.h.y.c 1
            have s2 : ∀ q : HeldW (fun w' => Sy2 w ga gb p2 q2 w4.heap.size ⟨true, give, false, y3, true, y5⟩ w'), q.w.cell? ⟨w4.heap.size, 2, none⟩ = some (.bool false) := fun q => q.h.y.c 2
            have s3 : ∀ q : HeldW (fun w' => Sy2 w ga gb p2 q2 w4.heap.size ⟨true, give, false, y3, true, y5⟩ w'), q.w.cell? ⟨w4.heap.size, 3, none⟩ = some (.int .u32 y3.toNat) := fun q => q.h.y.c 3
            have s4 : ∀ q : HeldW (fun w' => Sy2 w ga gb p2 q2 w4.heap.size ⟨true, give, false, y3, true, y5⟩ w'), q.w.cell? ⟨w4.heap.size, 4, none⟩ = some (.bool true) := fun q => q.h.y.c 4
            have s5 : ∀ q : HeldW (fun w' => Sy2 w ga gb p2 q2 w4.heap.size ⟨true, give, false, y3, true, y5⟩ w'), q.w.cell? ⟨w4.heap.size, 5, none⟩ = some (.int .u32 y5.toNat) := fun q => q.h.y.c 5
            have hNq := fun w => ipc_neq (x := ⟨true, give, false, y3, true, y5⟩) (y := ⟨true, give, false, y3, true, y5⟩) (decide_eq_true rfl) w
            have hne : Nonempty (HeldW (fun w' => Sy2 w ga gb p2 q2 w4.heap.size ⟨true, give, false, y3, true, y5⟩ w')) := ⟨⟨w5.drew, (HS5.out.callee (Below.refl _ w5).drew)⟩⟩
            refine wp_region_quiet_shut (fun w' => Sy2 w ga gb p2 q2 w4.heap.size ⟨true, give, false, y3, true, y5⟩ w') (by kernel_rfl) (by kernel_rfl) (HS5.out.callee (Below.refl _ w5).drew) (fun G hst hnil => ?_)
            repeat (
              refine hst.out _ _ _ (fun K hK => ?_)
              go_simp
              first
                | (refine hK _ ?_; clear hK K)
                | (apply Exists.intro
                   refine ⟨fun _ => ?_, hK _ ?_⟩
                   (first
                     | (go_at_call 16; exact held_of (HPC.out _)))
                   clear hK K))
            refine hnil.out _ (fun q => ?_)
            clear hnil hst
            have HQ := Lib.hid q.h
            clear hNq HPC s0 s1 s2 s3 s4 s5
            have HR := Lib.hid (request_room ga p2 q.w q.h.pa (by rw [KP.out.1]; rfl))
            go_wp2_with fail
            refine HR.out.mono ?_
            rintro e v1 ⟨B1, b1, rfl, hO1, hb1, _, hA1⟩
            have G1 := Lib.hid (q.h.callee hb1)
            have GO := Lib.hid hO1
            have HA := Lib.hid hA1
            have hlq : (req p2).length ≤ 3 := put_len p2.w
            clear hO1 hb1 hA1 HR
            obtain ⟨mq, hmq⟩ : ∃ mq, (req p2).length = mq := ⟨_, rfl⟩
            rw [hmq] at GO hlq ⊢
            have HJ := Lib.hid (judge_at (m := mq) G1.out.pb GO.out HA.out (by omega) (by rw [KQ.out.2.1]; omega) KB.out.1 KB.out.2.1 hmq)
            go_wp2_with fail
            refine HJ.out.mono ?_
            rintro e v2 ⟨B2, b2, rfl, hO2, hp2, hm2⟩
            have G2 := Lib.hid (G1.out.mb hm2 hp2)
            have GO2 := Lib.hid hO2
            clear hO2 hp2 hm2 HJ G1 GO
            have HK := Lib.hid (acked_any ga p2 (req p2) B2 mq b2 v2 G2.out.pa (by rw [KP.out.1]; rfl) GO2.out (by omega))
            go_wp2_with fail
            refine HK.out.mono ?_
            rintro e v3 ⟨rfl, hp3, hm3⟩
            have hak : akB p2 (req p2) = true := decide_eq_true rfl
            have hak2 : akP p2 (req p2) = { p2 with mine := p2.w } := by unfold akP; rw [hak]; rfl
            rw [hak2] at hp3
            rw [hak]
            have G3 := Lib.hid (G2.out.ma hm3 hp3)
            clear hp3 hm3 HK G2 GO2 hak hak2
            have HMi : Hid (∀ U, PAt U ga { p2 with mine := p2.w } → Calls Try.prog 15 #[.pointer (some ⟨ga, 0, none⟩)] U fun e w' => e = .returned (.agg #[Value.bool true, .int .u32 own.toNat, .bool false, .int .u32 0, .bool false, .int .u32 0]) ∧ Below U.heap.size U w') := fun U hU => by
              have h := mine_any ga _ U hU
              rw [show ({ p2 with mine := p2.w } : Po).mine = ⟨true, own, false, 0, false, 0⟩ from KP.out.1] at h
              exact h
            have HPe : Hid (∀ U, PAt U gb (jP q2 (req p2)) → Calls Try.prog 16 #[.pointer (some ⟨gb, 0, none⟩)] U fun e w' => e = .returned (.agg #[Value.bool true, .int .u32 own.toNat, .bool false, .int .u32 0, .bool false, .int .u32 0]) ∧ Below U.heap.size U w') := fun U hU => by
              have h := peer_any gb _ U hU
              rw [KB.out.2.2] at h
              exact h
            generalize ({ p2 with mine := p2.w } : Po) = p3 at *
            generalize jP q2 (req p2) = q3 at *
            have hel := fun w => ipc_eql (x := ⟨true, own, false, 0, false, 0⟩) (y := ⟨true, own, false, 0, false, 0⟩) (decide_eq_true rfl) w
            have hfd : ∀ W : World, (Instr.field 35 (.agg #[Value.bool true, .int .u32 own.toNat, .bool false, .int .u32 0, .bool false, .int .u32 0]) 1).run Try.prog W = .ok (.int .u32 own.toNat) W := fun W => by kernel_rfl
            go_wp2_with fail
            refine (HMi.out _ G3.out.pa).mono ?_
            rintro e v4 ⟨rfl, hb4⟩
            have G4 := Lib.hid (G3.out.callee hb4)
            clear hb4 G3
            go_wp2_with fail
            refine (HPe.out _ G4.out.pb).mono ?_
            rintro e v5 ⟨rfl, hb5⟩
            have G5 := Lib.hid (G4.out.callee hb5)
            clear hb5 G4
            go_wp2_with fail
            refine (HMi.out _ G5.out.pa).mono ?_
            rintro e v6 ⟨rfl, hb6⟩
            have G6 := Lib.hid (G5.out.callee hb6)
            clear hb6 G5 HMi HPe
            go_wp2_with fail
            refine (alive_any _).mono ?_
            rintro e v7 ⟨rfl, hb7⟩
            have G7 := Lib.hid (G6.out.callee hb7)
            clear hb7 G6
            go_wp2
            go_ret
            exact ⟨rfl, G7.out.b⟩
          · obtain rfl : y3 = d1 := k3 rfl
            clear k3 k5
            have HPC : Hid (∀ q : HeldW (fun w' => Sy2 w ga gb p2 q2 w4.heap.size ⟨true, give, true, y3, false, y5⟩ w'), Calls Try.prog 16 #[.pointer (some ⟨ga, 0, none⟩)] q.w fun e w' => e = .returned (.agg #[Value.bool true, .int .u32 give.toNat, .bool true, .int .u32 y3.toNat, .bool false, .int .u32 y5.toNat]) ∧ Sy2 w ga gb p2 q2 w4.heap.size ⟨true, give, true, y3, false, y5⟩ w') := fun q => by
              have h := peer_any ga p2 q.w q.h.pa
              rw [KPe.out] at h
              exact h.mono fun e w' ⟨he, hb⟩ => ⟨he, q.h.callee hb⟩
            have s0 : ∀ q : HeldW (fun w' => Sy2 w ga gb p2 q2 w4.heap.size ⟨true, give, true, y3, false, y5⟩ w'), q.w.cell? ⟨w4.heap.size, 0, none⟩ = some (Value.bool true) := fun q => q.h.y.c 0
            have s1 : ∀ q : HeldW (fun w' => Sy2 w ga gb p2 q2 w4.heap.size ⟨true, give, true, y3, false, y5⟩ w'), q.w.cell? ⟨w4.heap.size, 1, none⟩ = some (.int .u32 give.toNat) := fun q => q.h.y.c 1
            have s2 : ∀ q : HeldW (fun w' => Sy2 w ga gb p2 q2 w4.heap.size ⟨true, give, true, y3, false, y5⟩ w'), q.w.cell? ⟨w4.heap.size, 2, none⟩ = some (.bool true) := fun q => q.h.y.c 2
            have s3 : ∀ q : HeldW (fun w' => Sy2 w ga gb p2 q2 w4.heap.size ⟨true, give, true, y3, false, y5⟩ w'), q.w.cell? ⟨w4.heap.size, 3, none⟩ = some (.int .u32 y3.toNat) := fun q => q.h.y.c 3
            have s4 : ∀ q : HeldW (fun w' => Sy2 w ga gb p2 q2 w4.heap.size ⟨true, give, true, y3, false, y5⟩ w'), q.w.cell? ⟨w4.heap.size, 4, none⟩ = some (.bool false) := fun q => q.h.y.c 4
            have s5 : ∀ q : HeldW (fun w' => Sy2 w ga gb p2 q2 w4.heap.size ⟨true, give, true, y3, false, y5⟩ w'), q.w.cell? ⟨w4.heap.size, 5, none⟩ = some (.int .u32 y5.toNat) := fun q => q.h.y.c 5
            have hNq := fun w => ipc_neq (x := ⟨true, give, true, y3, false, y5⟩) (y := ⟨true, give, true, y3, false, y5⟩) (decide_eq_true rfl) w
            have hne : Nonempty (HeldW (fun w' => Sy2 w ga gb p2 q2 w4.heap.size ⟨true, give, true, y3, false, y5⟩ w')) := ⟨⟨w5.drew, (HS5.out.callee (Below.refl _ w5).drew)⟩⟩
            refine wp_region_quiet_shut (fun w' => Sy2 w ga gb p2 q2 w4.heap.size ⟨true, give, true, y3, false, y5⟩ w') (by kernel_rfl) (by kernel_rfl) (HS5.out.callee (Below.refl _ w5).drew) (fun G hst hnil => ?_)
            repeat (
              refine hst.out _ _ _ (fun K hK => ?_)
              go_simp
              first
                | (refine hK _ ?_; clear hK K)
                | (apply Exists.intro
                   refine ⟨fun _ => ?_, hK _ ?_⟩
                   (first
                     | (go_at_call 16; exact held_of (HPC.out _)))
                   clear hK K))
            refine hnil.out _ (fun q => ?_)
            clear hnil hst
            have HQ := Lib.hid q.h
            clear hNq HPC s0 s1 s2 s3 s4 s5
            have HR := Lib.hid (request_room ga p2 q.w q.h.pa (by rw [KP.out.1]; rfl))
            go_wp2_with fail
            refine HR.out.mono ?_
            rintro e v1 ⟨B1, b1, rfl, hO1, hb1, _, hA1⟩
            have G1 := Lib.hid (q.h.callee hb1)
            have GO := Lib.hid hO1
            have HA := Lib.hid hA1
            have hlq : (req p2).length ≤ 3 := put_len p2.w
            clear hO1 hb1 hA1 HR
            obtain ⟨mq, hmq⟩ : ∃ mq, (req p2).length = mq := ⟨_, rfl⟩
            rw [hmq] at GO hlq ⊢
            have HJ := Lib.hid (judge_at (m := mq) G1.out.pb GO.out HA.out (by omega) (by rw [KQ.out.2.1]; omega) KB.out.1 KB.out.2.1 hmq)
            go_wp2_with fail
            refine HJ.out.mono ?_
            rintro e v2 ⟨B2, b2, rfl, hO2, hp2, hm2⟩
            have G2 := Lib.hid (G1.out.mb hm2 hp2)
            have GO2 := Lib.hid hO2
            clear hO2 hp2 hm2 HJ G1 GO
            have HK := Lib.hid (acked_any ga p2 (req p2) B2 mq b2 v2 G2.out.pa (by rw [KP.out.1]; rfl) GO2.out (by omega))
            go_wp2_with fail
            refine HK.out.mono ?_
            rintro e v3 ⟨rfl, hp3, hm3⟩
            have hak : akB p2 (req p2) = true := decide_eq_true rfl
            have hak2 : akP p2 (req p2) = { p2 with mine := p2.w } := by unfold akP; rw [hak]; rfl
            rw [hak2] at hp3
            rw [hak]
            have G3 := Lib.hid (G2.out.ma hm3 hp3)
            clear hp3 hm3 HK G2 GO2 hak hak2
            have HMi : Hid (∀ U, PAt U ga { p2 with mine := p2.w } → Calls Try.prog 15 #[.pointer (some ⟨ga, 0, none⟩)] U fun e w' => e = .returned (.agg #[Value.bool true, .int .u32 own.toNat, .bool false, .int .u32 0, .bool false, .int .u32 0]) ∧ Below U.heap.size U w') := fun U hU => by
              have h := mine_any ga _ U hU
              rw [show ({ p2 with mine := p2.w } : Po).mine = ⟨true, own, false, 0, false, 0⟩ from KP.out.1] at h
              exact h
            have HPe : Hid (∀ U, PAt U gb (jP q2 (req p2)) → Calls Try.prog 16 #[.pointer (some ⟨gb, 0, none⟩)] U fun e w' => e = .returned (.agg #[Value.bool true, .int .u32 own.toNat, .bool false, .int .u32 0, .bool false, .int .u32 0]) ∧ Below U.heap.size U w') := fun U hU => by
              have h := peer_any gb _ U hU
              rw [KB.out.2.2] at h
              exact h
            generalize ({ p2 with mine := p2.w } : Po) = p3 at *
            generalize jP q2 (req p2) = q3 at *
            have hel := fun w => ipc_eql (x := ⟨true, own, false, 0, false, 0⟩) (y := ⟨true, own, false, 0, false, 0⟩) (decide_eq_true rfl) w
            have hfd : ∀ W : World, (Instr.field 35 (.agg #[Value.bool true, .int .u32 own.toNat, .bool false, .int .u32 0, .bool false, .int .u32 0]) 1).run Try.prog W = .ok (.int .u32 own.toNat) W := fun W => by kernel_rfl
            go_wp2_with fail
            refine (HMi.out _ G3.out.pa).mono ?_
            rintro e v4 ⟨rfl, hb4⟩
            have G4 := Lib.hid (G3.out.callee hb4)
            clear hb4 G3
            go_wp2_with fail
            refine (HPe.out _ G4.out.pb).mono ?_
            rintro e v5 ⟨rfl, hb5⟩
            have G5 := Lib.hid (G4.out.callee hb5)
            clear hb5 G4
            go_wp2_with fail
            refine (HMi.out _ G5.out.pa).mono ?_
            rintro e v6 ⟨rfl, hb6⟩
            have G6 := Lib.hid (G5.out.callee hb6)
            clear hb6 G5 HMi HPe
            go_wp2_with fail
            refine (alive_any _).mono ?_
            rintro e v7 ⟨rfl, hb7⟩
            have G7 := Lib.hid (G6.out.callee hb7)
            clear hb7 G6
            go_wp2
            go_ret
            exact ⟨rfl, G7.out.b⟩
          · obtain rfl : y3 = d1 := k3 rfl
            obtain rfl : y5 = d2 := k5 rfl
            clear k3 k5
            have HPC : Hid (∀ q : HeldW (fun w' => Sy2 w ga gb p2 q2 w4.heap.size ⟨true, give, true, y3, true, y5⟩ w'), Calls Try.prog 16 #[.pointer (some ⟨ga, 0, none⟩)] q.w fun e w' => e = .returned (.agg #[Value.bool true, .int .u32 give.toNat, .bool true, .int .u32 y3.toNat, .bool true, .int .u32 y5.toNat]) ∧ Sy2 w ga gb p2 q2 w4.heap.size ⟨true, give, true, y3, true, y5⟩ w') := fun q => by
              have h := peer_any ga p2 q.w q.h.pa
              rw [KPe.out] at h
              exact h.mono fun e w' ⟨he, hb⟩ => ⟨he, q.h.callee hb⟩
            have s0 : ∀ q : HeldW (fun w' => Sy2 w ga gb p2 q2 w4.heap.size ⟨true, give, true, y3, true, y5⟩ w'), q.w.cell? ⟨w4.heap.size, 0, none⟩ = some (Value.bool true) := fun q => q.h.y.c 0
            have s1 : ∀ q : HeldW (fun w' => Sy2 w ga gb p2 q2 w4.heap.size ⟨true, give, true, y3, true, y5⟩ w'), q.w.cell? ⟨w4.heap.size, 1, none⟩ = some (.int .u32 give.toNat) := fun q => q.h.y.c 1
            have s2 : ∀ q : HeldW (fun w' => Sy2 w ga gb p2 q2 w4.heap.size ⟨true, give, true, y3, true, y5⟩ w'), q.w.cell? ⟨w4.heap.size, 2, none⟩ = some (.bool true) := fun q => q.h.y.c 2
            have s3 : ∀ q : HeldW (fun w' => Sy2 w ga gb p2 q2 w4.heap.size ⟨true, give, true, y3, true, y5⟩ w'), q.w.cell? ⟨w4.heap.size, 3, none⟩ = some (.int .u32 y3.toNat) := fun q => q.h.y.c 3
            have s4 : ∀ q : HeldW (fun w' => Sy2 w ga gb p2 q2 w4.heap.size ⟨true, give, true, y3, true, y5⟩ w'), q.w.cell? ⟨w4.heap.size, 4, none⟩ = some (.bool true) := fun q => q.h.y.c 4
            have s5 : ∀ q : HeldW (fun w' => Sy2 w ga gb p2 q2 w4.heap.size ⟨true, give, true, y3, true, y5⟩ w'), q.w.cell? ⟨w4.heap.size, 5, none⟩ = some (.int .u32 y5.toNat) := fun q => q.h.y.c 5
            have hNq := fun w => ipc_neq (x := ⟨true, give, true, y3, true, y5⟩) (y := ⟨true, give, true, y3, true, y5⟩) (decide_eq_true rfl) w
            have hne : Nonempty (HeldW (fun w' => Sy2 w ga gb p2 q2 w4.heap.size ⟨true, give, true, y3, true, y5⟩ w')) := ⟨⟨w5.drew, (HS5.out.callee (Below.refl _ w5).drew)⟩⟩
            refine wp_region_quiet_shut (fun w' => Sy2 w ga gb p2 q2 w4.heap.size ⟨true, give, true, y3, true, y5⟩ w') (by kernel_rfl) (by kernel_rfl) (HS5.out.callee (Below.refl _ w5).drew) (fun G hst hnil => ?_)
            repeat (
              refine hst.out _ _ _ (fun K hK => ?_)
              go_simp
              first
                | (refine hK _ ?_; clear hK K)
                | (apply Exists.intro
                   refine ⟨fun _ => ?_, hK _ ?_⟩
                   (first
                     | (go_at_call 16; exact held_of (HPC.out _)))
                   clear hK K))
            refine hnil.out _ (fun q => ?_)
            clear hnil hst
            have HQ := Lib.hid q.h
            clear hNq HPC s0 s1 s2 s3 s4 s5
            have HR := Lib.hid (request_room ga p2 q.w q.h.pa (by rw [KP.out.1]; rfl))
            go_wp2_with fail
            refine HR.out.mono ?_
            rintro e v1 ⟨B1, b1, rfl, hO1, hb1, _, hA1⟩
            have G1 := Lib.hid (q.h.callee hb1)
            have GO := Lib.hid hO1
            have HA := Lib.hid hA1
            have hlq : (req p2).length ≤ 3 := put_len p2.w
            clear hO1 hb1 hA1 HR
            obtain ⟨mq, hmq⟩ : ∃ mq, (req p2).length = mq := ⟨_, rfl⟩
            rw [hmq] at GO hlq ⊢
            have HJ := Lib.hid (judge_at (m := mq) G1.out.pb GO.out HA.out (by omega) (by rw [KQ.out.2.1]; omega) KB.out.1 KB.out.2.1 hmq)
            go_wp2_with fail
            refine HJ.out.mono ?_
            rintro e v2 ⟨B2, b2, rfl, hO2, hp2, hm2⟩
            have G2 := Lib.hid (G1.out.mb hm2 hp2)
            have GO2 := Lib.hid hO2
            clear hO2 hp2 hm2 HJ G1 GO
            have HK := Lib.hid (acked_any ga p2 (req p2) B2 mq b2 v2 G2.out.pa (by rw [KP.out.1]; rfl) GO2.out (by omega))
            go_wp2_with fail
            refine HK.out.mono ?_
            rintro e v3 ⟨rfl, hp3, hm3⟩
            have hak : akB p2 (req p2) = true := decide_eq_true rfl
            have hak2 : akP p2 (req p2) = { p2 with mine := p2.w } := by unfold akP; rw [hak]; rfl
            rw [hak2] at hp3
            rw [hak]
            have G3 := Lib.hid (G2.out.ma hm3 hp3)
            clear hp3 hm3 HK G2 GO2 hak hak2
            have HMi : Hid (∀ U, PAt U ga { p2 with mine := p2.w } → Calls Try.prog 15 #[.pointer (some ⟨ga, 0, none⟩)] U fun e w' => e = .returned (.agg #[Value.bool true, .int .u32 own.toNat, .bool false, .int .u32 0, .bool false, .int .u32 0]) ∧ Below U.heap.size U w') := fun U hU => by
              have h := mine_any ga _ U hU
              rw [show ({ p2 with mine := p2.w } : Po).mine = ⟨true, own, false, 0, false, 0⟩ from KP.out.1] at h
              exact h
            have HPe : Hid (∀ U, PAt U gb (jP q2 (req p2)) → Calls Try.prog 16 #[.pointer (some ⟨gb, 0, none⟩)] U fun e w' => e = .returned (.agg #[Value.bool true, .int .u32 own.toNat, .bool false, .int .u32 0, .bool false, .int .u32 0]) ∧ Below U.heap.size U w') := fun U hU => by
              have h := peer_any gb _ U hU
              rw [KB.out.2.2] at h
              exact h
            generalize ({ p2 with mine := p2.w } : Po) = p3 at *
            generalize jP q2 (req p2) = q3 at *
            have hel := fun w => ipc_eql (x := ⟨true, own, false, 0, false, 0⟩) (y := ⟨true, own, false, 0, false, 0⟩) (decide_eq_true rfl) w
            have hfd : ∀ W : World, (Instr.field 35 (.agg #[Value.bool true, .int .u32 own.toNat, .bool false, .int .u32 0, .bool false, .int .u32 0]) 1).run Try.prog W = .ok (.int .u32 own.toNat) W := fun W => by kernel_rfl
            go_wp2_with fail
            refine (HMi.out _ G3.out.pa).mono ?_
            rintro e v4 ⟨rfl, hb4⟩
            have G4 := Lib.hid (G3.out.callee hb4)
            clear hb4 G3
            go_wp2_with fail
            refine (HPe.out _ G4.out.pb).mono ?_
            rintro e v5 ⟨rfl, hb5⟩
            have G5 := Lib.hid (G4.out.callee hb5)
            clear hb5 G4
            go_wp2_with fail
            refine (HMi.out _ G5.out.pa).mono ?_
            rintro e v6 ⟨rfl, hb6⟩
            have G6 := Lib.hid (G5.out.callee hb6)
            clear hb6 G5 HMi HPe
            go_wp2_with fail
            refine (alive_any _).mono ?_
            rintro e v7 ⟨rfl, hb7⟩
            have G7 := Lib.hid (G6.out.callee hb7)
            clear hb7 G6
            go_wp2
            go_ret
            exact ⟨rfl, G7.out.b⟩

set_option maxRecDepth 100000 in
theorem lifted (os : Os) (started : os.Started) (H : Type) (enc : TypeId × Value → H) :
    ReturnsInHanded {} Try.checked os 6 .any (Rows.ipcppolBothSpec.pre6 enc Try.prog Try.f6 Rows.ipcppolBothRow.domain false) (Rows.ipcppolBothSpec.post enc Try.prog Try.f6 false true false false) := by
  refine returnsInHanded_of_change (C := Try.checked) own_ started (by kernel_rfl) Try.func6
    (ChangeSpec.witness6 (enc := enc) (C := Try.checked) false ⟨#[], #[.int .u32 0, .int .u32 0, .int .u32 0, .int .u32 0, .bool false], []⟩ 8 (by kernel_rfl) (by kernel_rfl) (by kernel_rfl) (by kernel_rfl)) ?_
  intro W base args ds gs before hval0 hW hcnd _
  have hval : ∀ (j : Nat) t v, Try.f6.params[j]? = some t → args[j]? = some v → Value.okWide Try.prog W .any base t v := hval0
  have hW' := hW
  obtain ⟨p, q, hA0, hV, rfl, hfz, hnd⟩ := hW
  have hlt := hW'.lt
  have hA : DataW.TrodAll enc Try.prog W 0 (fun _ => true) true Try.f6.params.toList args.toList ds p := hA0
  rw [Try.params6] at hA hval
  obtain ⟨v0, vs0, d0, ds0, p0, q0, hargs, rfl, rfl, h0, r0⟩ := trodAll_cons hA
  obtain ⟨v1, vs1, d1, ds1, p1, q1, rfl, rfl, rfl, h1, r1⟩ := trodAll_cons r0
  obtain ⟨v2, vs2, d2, ds2, p2, q2, rfl, rfl, rfl, h2, r2⟩ := trodAll_cons r1
  obtain ⟨v3, vs3, d3, ds3, p3, q3, rfl, rfl, rfl, h3, r3⟩ := trodAll_cons r2
  obtain ⟨v4, vs4, d4, ds4, p4, q4, rfl, rfl, rfl, h4, r4⟩ := trodAll_cons r3
  obtain ⟨rfl, rfl, rfl⟩ := trodAll_nil r4
  obtain rfl : args = #[v0, v1, v2, v3, v4] := by cases args; simp_all
  obtain ⟨rfl, rfl⟩ := trodVars_none hV
  obtain ⟨z0, rfl, rfl, rfl, w0⟩ := open_int Try.underlying22 (hval 0 22 v0 rfl rfl) h0
  obtain ⟨a0, rfl⟩ := u32_of (z := z0) (bounds_u32 w0)
  obtain ⟨z1, rfl, rfl, rfl, w1⟩ := open_int Try.underlying22 (hval 1 22 v1 rfl rfl) h1
  obtain ⟨a1, rfl⟩ := u32_of (z := z1) (bounds_u32 w1)
  obtain ⟨z2, rfl, rfl, rfl, w2⟩ := open_int Try.underlying22 (hval 2 22 v2 rfl rfl) h2
  obtain ⟨a2, rfl⟩ := u32_of (z := z2) (bounds_u32 w2)
  obtain ⟨z3, rfl, rfl, rfl, w3⟩ := open_int Try.underlying22 (hval 3 22 v3 rfl rfl) h3
  obtain ⟨a3, rfl⟩ := u32_of (z := z3) (bounds_u32 w3)
  obtain ⟨a4, rfl, rfl, rfl⟩ := open_bool Try.underlying4 (hval 4 4 v4 rfl rfl) h4
  clear hA0 hval0
  exact (walk a0 a1 a2 a3 a4 W).mono fun e W' ⟨he, hb⟩ => ⟨_, he, law_post (t := 4) laidOut (by kernel_rfl) rfl rfl Try.underlying4 ⟨rfl, rfl, rfl⟩ hW' hb⟩

theorem over : Rows.ipcppolBothRow.holds Try.pinned (OpenSpec.ofChange Rows.ipcppolBothSpec) :=
  OpenClaim.holds_of_wide 6 Try.f6 rfl rfl rfl rfl rfl rfl rfl ⟨rfl, rfl, rfl, rfl, rfl⟩ rfl rfl rfl rfl rfl (by kernel_rfl) Try.func6 (by kernel_rfl)
    (of_decide_eq_true (by kernel_rfl)) (by unfold Func.isWrapper; first | (rw [if_pos (by decide +kernel)]; kernel_rfl) | (rw [if_neg (by decide +kernel)]; exact ⟨rfl, rfl⟩))
    (fun os started H enc _ => lifted os started H enc)

theorem proved : Rows.IpcppolBothSaid :=
  over
#print axioms proved
end Go.Proofs.Ytbkcdpfelkbhaaa.IpcppolBoth
