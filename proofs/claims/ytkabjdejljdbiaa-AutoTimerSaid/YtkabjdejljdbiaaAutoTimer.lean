/- PROVED: 'halyardlaw13.AutoTimer' returns true for every conf and every row of bytes, and leaves them as they were. No condition. -/
import Derived.Test.YtkabjdejljdbiaaAutK
import Derived.Test.YtkabjdejljdbiaaLaw
import Derived.Test.YtkabjdejljdbiaaInt3
import Derived.Test.YtkabjdejljdbiaaRows
namespace Go.Proofs.Ytkabjdejljdbiaa.AutoTimer
open Go.ChangeShapes Go.WideShapes Go.ChangeAt Go.RowKit Go.Proofs.Ytkabjdejljdbiaa.Oct Go.Proofs.Ytkabjdejljdbiaa.Row Go.Proofs.Ytkabjdejljdbiaa.Fsm Go.Proofs.Ytkabjdejljdbiaa.Mem Go.Proofs.Ytkabjdejljdbiaa.Law Go.Proofs.Ytkabjdejljdbiaa.Aut

set_option maxHeartbeats 8000000 in
set_option maxRecDepth 100000 in
theorem walk_long (a b d : Int) (A : Option Addr) (n c : Nat) (w : World) (hn : 3000 < n) :
    Calls Try.prog 5 #[.agg #[.int .i64 a, .int .i64 b, .int .i64 d], .slice A n c] w fun e w' => e = .returned (.bool true) ∧ Below w.heap.size w w' := by
  obtain ⟨W, hW, c0, c1, c2, HB⟩ := boxC w a b d
  have HL := Lib.hid (fun w => long_yes A n c w hn)
  clear hn
  go_enter Try.func5, Try.ntmps5
  go_wp2_with fail
  refine (HL.out _).mono ?_
  rintro o _ ⟨rfl, rfl⟩
  go_wp2_with fail
  refine (alive_any _).mono ?_
  rintro o w1 ⟨rfl, hb⟩
  have HE := Lib.hid (HB.out.trans (hb.mono HB.out.size))
  clear hb
  go_wp2
  go_ret
  exact ⟨rfl, HE.out⟩
set_option maxHeartbeats 8000000 in
set_option maxRecDepth 100000 in
theorem walk_no (a b d : Int) (A : Option Addr) (n c : Nat) (w : World) (hn : ¬ 3000 < n) (hm : may a b d = false) :
    Calls Try.prog 5 #[.agg #[.int .i64 a, .int .i64 b, .int .i64 d], .slice A n c] w fun e w' => e = .returned (.bool true) ∧ Below w.heap.size w w' := by
  obtain ⟨W, hW, c0, c1, c2, HB⟩ := boxC w a b d
  have HL := Lib.hid (fun w => long_no A n c w hn)
  have HN := Lib.hid (fun w => new_no a b d w hm)
  clear hn hm
  go_enter Try.func5, Try.ntmps5
  go_wp2_with fail
  refine (HL.out _).mono ?_
  rintro o _ ⟨rfl, rfl⟩
  go_wp2_with fail
  refine (HN.out _).mono ?_
  rintro o w1 ⟨rfl, hb⟩
  have H1 := Lib.hid (HB.out.trans (hb.mono HB.out.size))
  clear hb HN
  go_wp2_with fail
  refine (alive_any _).mono ?_
  rintro o w2 ⟨rfl, hb⟩
  have H2 := Lib.hid (H1.out.trans (hb.mono H1.out.size))
  clear hb
  go_wp2
  go_ret
  exact ⟨rfl, H2.out⟩
set_option maxHeartbeats 8000000 in
set_option maxRecDepth 100000 in
theorem walk_less (r mc mt : Nat) (A : Option Addr) (n c : Nat) (w : World) (hn : ¬ 3000 < n) (hm : may r mc mt = true) (hmm : mc < mt) (hI : Ints w w.heap.size A n .u8) :
    Calls Try.prog 5 #[.agg #[.int .i64 r, .int .i64 mc, .int .i64 mt], .slice A n c] w fun e w' => e = .returned (.bool true) ∧ Below w.heap.size w w' := by
  obtain ⟨W, hW, c0, c1, c2, HB⟩ := boxC w r mc mt
  have HS : Hid (w.heap.size < W.heap.size) := by
    show _ < _
    rw [← hW]
    simp
  have HI := Lib.hid hI
  have HV := Lib.hid (new_inv hm)
  have HL := Lib.hid (fun w => long_no A n c w hn)
  have HN := Lib.hid (fun w => new_ok r mc mt w hm)
  have hn1 : (n : Int) ≤ 3000 := by omega
  have HQ : Hid (∀ z : Au, Inv z → Same ⟨r, mc, mt, 0, 0, 0⟩ z → z.l ≤ r ∧ z.c ≤ mt) := fun z hi hs => by
    have h1 := hi.l
    have h2 := hi.c
    obtain ⟨e1, e2, e3⟩ := hs
    simp only at e1 e2 e3
    rw [e1] at h1
    rw [e2, e3] at h2
    exact ⟨h1, by omega⟩
  have hmi : (mc : Int) < (mt : Int) := by omega
  clear hn hm hI hmm
  go_enter Try.func5, Try.ntmps5
  go_wp2_with fail
  refine (HL.out _).mono ?_
  rintro o _ ⟨rfl, rfl⟩
  go_wp2_with fail
  refine (HN.out _).mono ?_
  rintro o w1 ⟨g, rfl, hg, ha, hb⟩
  have H1 : Hid (Al W w1 g ⟨r, mc, mt, 0, 0, 0⟩) := Al.new (Below.refl _ _) ha hg hb
  clear hg ha hb HN
  go_wp2_with fail
  go_loopw [7] (fun i wr => ∃ (k : Nat) (x : Au), k ≤ n ∧ i = .int .i64 k ∧ Hid (Al W wr g x ∧ Inv x ∧ Same ⟨r, mc, mt, 0, 0, 0⟩ x)) (fun i _ => n - (intOf i).toNat)
  case atStart => exact ⟨0, _, Nat.zero_le _, rfl, H1.out, HV.out, .refl _⟩
  case round =>
    obtain ⟨k, x, hk, rfl, HF⟩ := hrel
    by_cases hlt : k < n
    · obtain ⟨ad, y, rfl, hyb, hc⟩ := event_at (HI.out.below (HF.out.1.low HB.out)) hlt
      obtain ⟨ev, hev, he1⟩ : ∃ ev : Nat, ev < 17 ∧ (y : Int).tmod 17 = (ev : Int) := ⟨y % 17, Nat.mod_lt _ (by decide), rfl⟩
      have hy0 : (0 : Int) ≤ y := Int.natCast_nonneg y
      have hy1 : (y : Int) ≤ 255 := by omega
      have hk1 : (k : Int) < (n : Int) := by omega
      by_cases h16 : ev = 16
      · have hq : ((ev : Int) == 16) = true := by rw [h16]; rfl
        have HT := Lib.hid (tick_any x g wr HF.out.1.1 HF.out.2.1)
        clear h16
        go_wp2_with fail
        refine (state_any g _ _ HF.out.1.1).mono ?_
        rintro o _ ⟨rfl, rfl⟩
        go_wp2_with fail
        refine (counter_any g _ _ HF.out.1.1).mono ?_
        rintro o _ ⟨rfl, rfl⟩
        go_wp2_with fail
        refine (left_any g _ _ HF.out.1.1).mono ?_
        rintro o _ ⟨rfl, rfl⟩
        go_wp2_with fail
        refine HT.out.mono ?_
        rintro o w3 ⟨rfl, ha, hm⟩
        have HG : Hid (Al W w3 g (tk x) ∧ Inv (tk x) ∧ Same ⟨r, mc, mt, 0, 0, 0⟩ (tk x)) := ⟨HF.out.1.moves hm ha, tk_inv HF.out.2.1, HF.out.2.2.trans (tk_same x)⟩
        clear ha hm hc HT HF
        generalize tk x = z at HG
        have d0 : w3.cell? ⟨w.heap.size, 0, none⟩ = some (.int .i64 r) := (HG.out.1.2.1.cell (p := ⟨w.heap.size, 0, none⟩) HS.out).trans c0
        have d1 : w3.cell? ⟨w.heap.size, 1, none⟩ = some (.int .i64 mc) := (HG.out.1.2.1.cell (p := ⟨w.heap.size, 1, none⟩) HS.out).trans c1
        have d2 : w3.cell? ⟨w.heap.size, 2, none⟩ = some (.int .i64 mt) := (HG.out.1.2.1.cell (p := ⟨w.heap.size, 2, none⟩) HS.out).trans c2
        have S1 := Lib.hid (state_q HG.out.1.1)
        have C1 := Lib.hid (counter_q HG.out.1.1)
        have L1 := Lib.hid (left_q HG.out.1.1)
        have T1 := Lib.hid (timed_q HG.out.2.1 w3)
        obtain ⟨k1, k2⟩ := HQ.out z HG.out.2.1 HG.out.2.2
        have kl0 : decide ((z.l : Int) < 0) = false := decide_eq_false (by omega)
        have kc0 : decide ((z.c : Int) < 0) = false := decide_eq_false (by omega)
        have kl1 : decide ((r : Int) < (z.l : Int)) = false := decide_eq_false (by omega)
        have kc1 : decide ((mt : Int) < (z.c : Int)) = false := decide_eq_false (by omega)
        have kl2 : decide (r < z.l) = false := decide_eq_false (by omega)
        have kc2 : decide (mt < z.c) = false := decide_eq_false (by omega)
        clear k1 k2
        go_wp2_with fail
        go_quiet (first
          | (go_at_call 10; refine Calls.quiet_of_same (S1.out _))
          | (go_at_call 11; refine Calls.quiet_of_same (C1.out _))
          | (go_at_call 12; refine Calls.quiet_of_same (L1.out _))
          | (go_at_call 19; refine Calls.quiet_of_same (T1.out _)))
        go_wp2
        go_roundw
        case rel => exact ⟨k + 1, z, by omega, by go_num, HG.out.1.drewN _, HG.out.2⟩
        case measure => simp [intOf]; omega
      · have hq : ((ev : Int) == 16) = false := by rw [beq_eq_false_iff_ne]; omega
        have HNx : Hid (∀ w, Calls Try.prog 20 #[.int .u8 x.s, .int .u8 ev] w fun o w' => o = .returned (.tuple #[.int .u16 (nA x.s ev), .int .u8 (nN x.s ev), .int .i64 (nE x.s ev)]) ∧ Below w.heap.size w w') := fun w => next_any x.s ev w
        by_cases hz : nE x.s ev = 0
        · by_cases h4 : ev = 4
          · have e4 : ((ev : Int) != 4) = false := by rw [h4]; rfl
            have hNE : ((nE x.s ev : Int) == 0) = true := by rw [hz]; rfl
            obtain ⟨r1, r2, r3⟩ := refused HF.out.2.1.s (show nE x.s ev ≠ 0 ∨ ev = 4 ∨ ev = 5 from .inr (.inl h4))
            clear h4 hz h16
            have HT : Hid (∀ w', Al W w' g x → Calls Try.prog 8 #[.pointer (some ⟨g, 0, none⟩), .int .u8 ev] w' fun o w'' => o = .returned (.tuple #[.int .u16 (0 : Nat), .int .i64 (evE x ev)]) ∧ Al W w'' g x) := fun w' h => ev_at x ev 0 _ h HF.out.2.1 r3 r1 rfl
            have hE : ((evE x ev : Int) != 0) = true := by rw [bne_iff_ne]; omega
            have hE2 : ((evE x ev : Int) == 0) = false := by rw [beq_eq_false_iff_ne]; omega
            clear r1 r2 r3
            generalize evE x ev = E at *
            generalize nE x.s ev = NE at *
            generalize nN x.s ev = NN at *
            generalize nA x.s ev = NA at *
            go_wp2_with fail
            refine (state_any g _ _ HF.out.1.1).mono ?_
            rintro o _ ⟨rfl, rfl⟩
            go_wp2_with fail
            refine (counter_any g _ _ HF.out.1.1).mono ?_
            rintro o _ ⟨rfl, rfl⟩
            go_wp2_with fail
            refine (left_any g _ _ HF.out.1.1).mono ?_
            rintro o _ ⟨rfl, rfl⟩
            go_wp2_with fail
            refine (HNx.out _).mono ?_
            rintro o w2 ⟨rfl, hb⟩
            have H2 := Lib.hid (HF.out.1.callee hb)
            clear hb HNx hc
            go_wp2_with fail
            refine (HT.out _ H2.out).mono ?_
            rintro o w3 ⟨rfl, h⟩
            have HG : Hid (Al W w3 g x ∧ Inv x ∧ Same ⟨r, mc, mt, 0, 0, 0⟩ x) := ⟨h, HF.out.2⟩
            clear h HT H2 HF
            go_wp2_with fail
            refine (state_any g _ _ HG.out.1.1).mono ?_
            rintro o _ ⟨rfl, rfl⟩
            go_wp2_with fail
            refine (counter_any g _ _ HG.out.1.1).mono ?_
            rintro o _ ⟨rfl, rfl⟩
            go_wp2_with fail
            refine (left_any g _ _ HG.out.1.1).mono ?_
            rintro o _ ⟨rfl, rfl⟩
            have d0 : w3.cell? ⟨w.heap.size, 0, none⟩ = some (.int .i64 r) := (HG.out.1.2.1.cell (p := ⟨w.heap.size, 0, none⟩) HS.out).trans c0
            have d1 : w3.cell? ⟨w.heap.size, 1, none⟩ = some (.int .i64 mc) := (HG.out.1.2.1.cell (p := ⟨w.heap.size, 1, none⟩) HS.out).trans c1
            have d2 : w3.cell? ⟨w.heap.size, 2, none⟩ = some (.int .i64 mt) := (HG.out.1.2.1.cell (p := ⟨w.heap.size, 2, none⟩) HS.out).trans c2
            have S1 := Lib.hid (state_q HG.out.1.1)
            have C1 := Lib.hid (counter_q HG.out.1.1)
            have L1 := Lib.hid (left_q HG.out.1.1)
            have T1 := Lib.hid (timed_q HG.out.2.1 w3)
            obtain ⟨k1, k2⟩ := HQ.out x HG.out.2.1 HG.out.2.2
            have kl0 : decide ((x.l : Int) < 0) = false := decide_eq_false (by omega)
            have kc0 : decide ((x.c : Int) < 0) = false := decide_eq_false (by omega)
            have kl1 : decide ((r : Int) < (x.l : Int)) = false := decide_eq_false (by omega)
            have kc1 : decide ((mt : Int) < (x.c : Int)) = false := decide_eq_false (by omega)
            have kl2 : decide (r < x.l) = false := decide_eq_false (by omega)
            have kc2 : decide (mt < x.c) = false := decide_eq_false (by omega)
            clear k1 k2
            go_wp2_with fail
            go_quiet (first
              | (go_at_call 10; refine Calls.quiet_of_same (S1.out _))
              | (go_at_call 11; refine Calls.quiet_of_same (C1.out _))
              | (go_at_call 12; refine Calls.quiet_of_same (L1.out _))
              | (go_at_call 19; refine Calls.quiet_of_same (T1.out _)))
            go_wp2
            go_roundw
            case rel => exact ⟨k + 1, x, by omega, by go_num, HG.out.1.drewN _, HG.out.2⟩
            case measure => simp [intOf]; omega
          · have e4 : ((ev : Int) != 4) = true := by rw [bne_iff_ne]; omega
            by_cases h5 : ev = 5
            · have e5 : ((ev : Int) != 5) = false := by rw [h5]; rfl
              have hNE : ((nE x.s ev : Int) == 0) = true := by rw [hz]; rfl
              obtain ⟨r1, r2, r3⟩ := refused HF.out.2.1.s (show nE x.s ev ≠ 0 ∨ ev = 4 ∨ ev = 5 from .inr (.inr h5))
              clear h4 h5 hz h16
              have HT : Hid (∀ w', Al W w' g x → Calls Try.prog 8 #[.pointer (some ⟨g, 0, none⟩), .int .u8 ev] w' fun o w'' => o = .returned (.tuple #[.int .u16 (0 : Nat), .int .i64 (evE x ev)]) ∧ Al W w'' g x) := fun w' h => ev_at x ev 0 _ h HF.out.2.1 r3 r1 rfl
              have hE : ((evE x ev : Int) != 0) = true := by rw [bne_iff_ne]; omega
              have hE2 : ((evE x ev : Int) == 0) = false := by rw [beq_eq_false_iff_ne]; omega
              clear r1 r2 r3
              generalize evE x ev = E at *
              generalize nE x.s ev = NE at *
              generalize nN x.s ev = NN at *
              generalize nA x.s ev = NA at *
              go_wp2_with fail
              refine (state_any g _ _ HF.out.1.1).mono ?_
              rintro o _ ⟨rfl, rfl⟩
              go_wp2_with fail
              refine (counter_any g _ _ HF.out.1.1).mono ?_
              rintro o _ ⟨rfl, rfl⟩
              go_wp2_with fail
              refine (left_any g _ _ HF.out.1.1).mono ?_
              rintro o _ ⟨rfl, rfl⟩
              go_wp2_with fail
              refine (HNx.out _).mono ?_
              rintro o w2 ⟨rfl, hb⟩
              have H2 := Lib.hid (HF.out.1.callee hb)
              clear hb HNx hc
              go_wp2_with fail
              refine (HT.out _ H2.out).mono ?_
              rintro o w3 ⟨rfl, h⟩
              have HG : Hid (Al W w3 g x ∧ Inv x ∧ Same ⟨r, mc, mt, 0, 0, 0⟩ x) := ⟨h, HF.out.2⟩
              clear h HT H2 HF
              go_wp2_with fail
              refine (state_any g _ _ HG.out.1.1).mono ?_
              rintro o _ ⟨rfl, rfl⟩
              go_wp2_with fail
              refine (counter_any g _ _ HG.out.1.1).mono ?_
              rintro o _ ⟨rfl, rfl⟩
              go_wp2_with fail
              refine (left_any g _ _ HG.out.1.1).mono ?_
              rintro o _ ⟨rfl, rfl⟩
              have d0 : w3.cell? ⟨w.heap.size, 0, none⟩ = some (.int .i64 r) := (HG.out.1.2.1.cell (p := ⟨w.heap.size, 0, none⟩) HS.out).trans c0
              have d1 : w3.cell? ⟨w.heap.size, 1, none⟩ = some (.int .i64 mc) := (HG.out.1.2.1.cell (p := ⟨w.heap.size, 1, none⟩) HS.out).trans c1
              have d2 : w3.cell? ⟨w.heap.size, 2, none⟩ = some (.int .i64 mt) := (HG.out.1.2.1.cell (p := ⟨w.heap.size, 2, none⟩) HS.out).trans c2
              have S1 := Lib.hid (state_q HG.out.1.1)
              have C1 := Lib.hid (counter_q HG.out.1.1)
              have L1 := Lib.hid (left_q HG.out.1.1)
              have T1 := Lib.hid (timed_q HG.out.2.1 w3)
              obtain ⟨k1, k2⟩ := HQ.out x HG.out.2.1 HG.out.2.2
              have kl0 : decide ((x.l : Int) < 0) = false := decide_eq_false (by omega)
              have kc0 : decide ((x.c : Int) < 0) = false := decide_eq_false (by omega)
              have kl1 : decide ((r : Int) < (x.l : Int)) = false := decide_eq_false (by omega)
              have kc1 : decide ((mt : Int) < (x.c : Int)) = false := decide_eq_false (by omega)
              have kl2 : decide (r < x.l) = false := decide_eq_false (by omega)
              have kc2 : decide (mt < x.c) = false := decide_eq_false (by omega)
              clear k1 k2
              go_wp2_with fail
              go_quiet (first
                | (go_at_call 10; refine Calls.quiet_of_same (S1.out _))
                | (go_at_call 11; refine Calls.quiet_of_same (C1.out _))
                | (go_at_call 12; refine Calls.quiet_of_same (L1.out _))
                | (go_at_call 19; refine Calls.quiet_of_same (T1.out _)))
              go_wp2
              go_roundw
              case rel => exact ⟨k + 1, x, by omega, by go_num, HG.out.1.drewN _, HG.out.2⟩
              case measure => simp [intOf]; omega
            · have e5 : ((ev : Int) != 5) = true := by rw [bne_iff_ne]; omega
              obtain ⟨r1, r2⟩ := done hz (show ¬ (ev = 4 ∨ ev = 5) by omega)
              have HT : Hid (∀ w', Al W w' g x → Calls Try.prog 8 #[.pointer (some ⟨g, 0, none⟩), .int .u8 ev] w' fun o w'' => o = .returned (.tuple #[.int .u16 (evA x ev), .int .i64 (0 : Nat)]) ∧ Al W w'' g (evX x ev)) := fun w' h => ev_at _ ev _ 0 h HF.out.2.1 rfl rfl r1
              have HJ : Hid (Inv (evX x ev) ∧ Same ⟨r, mc, mt, 0, 0, 0⟩ (evX x ev)) := ⟨evX_inv HF.out.2.1 ev, HF.out.2.2.trans (evX_same x ev)⟩
              rw [hz, ← r2] at HNx
              clear h4 h5 hz h16 r1 r2
              generalize evX x ev = z at *
              generalize evA x ev = EA at *
              generalize nA x.s ev = NA at *
              go_wp2_with fail
              refine (state_any g _ _ HF.out.1.1).mono ?_
              rintro o _ ⟨rfl, rfl⟩
              go_wp2_with fail
              refine (counter_any g _ _ HF.out.1.1).mono ?_
              rintro o _ ⟨rfl, rfl⟩
              go_wp2_with fail
              refine (left_any g _ _ HF.out.1.1).mono ?_
              rintro o _ ⟨rfl, rfl⟩
              go_wp2_with fail
              refine (HNx.out _).mono ?_
              rintro o w2 ⟨rfl, hb⟩
              have H2 := Lib.hid (HF.out.1.callee hb)
              clear hb HNx hc
              go_wp2_with fail
              refine (HT.out _ H2.out).mono ?_
              rintro o w3 ⟨rfl, h⟩
              have HG : Hid (Al W w3 g z ∧ Inv z ∧ Same ⟨r, mc, mt, 0, 0, 0⟩ z) := ⟨h, HJ.out⟩
              clear h HT H2 HF HJ
              go_wp2_with fail
              refine (state_any g _ _ HG.out.1.1).mono ?_
              rintro o _ ⟨rfl, rfl⟩
              have d0 : w3.cell? ⟨w.heap.size, 0, none⟩ = some (.int .i64 r) := (HG.out.1.2.1.cell (p := ⟨w.heap.size, 0, none⟩) HS.out).trans c0
              have d1 : w3.cell? ⟨w.heap.size, 1, none⟩ = some (.int .i64 mc) := (HG.out.1.2.1.cell (p := ⟨w.heap.size, 1, none⟩) HS.out).trans c1
              have d2 : w3.cell? ⟨w.heap.size, 2, none⟩ = some (.int .i64 mt) := (HG.out.1.2.1.cell (p := ⟨w.heap.size, 2, none⟩) HS.out).trans c2
              have S1 := Lib.hid (state_q HG.out.1.1)
              have C1 := Lib.hid (counter_q HG.out.1.1)
              have L1 := Lib.hid (left_q HG.out.1.1)
              have T1 := Lib.hid (timed_q HG.out.2.1 w3)
              obtain ⟨k1, k2⟩ := HQ.out z HG.out.2.1 HG.out.2.2
              have kl0 : decide ((z.l : Int) < 0) = false := decide_eq_false (by omega)
              have kc0 : decide ((z.c : Int) < 0) = false := decide_eq_false (by omega)
              have kl1 : decide ((r : Int) < (z.l : Int)) = false := decide_eq_false (by omega)
              have kc1 : decide ((mt : Int) < (z.c : Int)) = false := decide_eq_false (by omega)
              have kl2 : decide (r < z.l) = false := decide_eq_false (by omega)
              have kc2 : decide (mt < z.c) = false := decide_eq_false (by omega)
              clear k1 k2
              go_wp2_with fail
              go_quiet (first
                | (go_at_call 10; refine Calls.quiet_of_same (S1.out _))
                | (go_at_call 11; refine Calls.quiet_of_same (C1.out _))
                | (go_at_call 12; refine Calls.quiet_of_same (L1.out _))
                | (go_at_call 19; refine Calls.quiet_of_same (T1.out _)))
              go_wp2
              go_roundw
              case rel => exact ⟨k + 1, z, by omega, by go_num, HG.out.1.drewN _, HG.out.2⟩
              case measure => simp [intOf]; omega
        · have hNE : ((nE x.s ev : Int) == 0) = false := by rw [beq_eq_false_iff_ne]; omega
          obtain ⟨r1, r2, r3⟩ := refused HF.out.2.1.s (show nE x.s ev ≠ 0 ∨ ev = 4 ∨ ev = 5 from .inl hz)
          clear hz h16
          have HT : Hid (∀ w', Al W w' g x → Calls Try.prog 8 #[.pointer (some ⟨g, 0, none⟩), .int .u8 ev] w' fun o w'' => o = .returned (.tuple #[.int .u16 (0 : Nat), .int .i64 (evE x ev)]) ∧ Al W w'' g x) := fun w' h => ev_at x ev 0 _ h HF.out.2.1 r3 r1 rfl
          have hE : ((evE x ev : Int) != 0) = true := by rw [bne_iff_ne]; omega
          have hE2 : ((evE x ev : Int) == 0) = false := by rw [beq_eq_false_iff_ne]; omega
          clear r1 r2 r3
          generalize evE x ev = E at *
          generalize nE x.s ev = NE at *
          generalize nN x.s ev = NN at *
          generalize nA x.s ev = NA at *
          go_wp2_with fail
          refine (state_any g _ _ HF.out.1.1).mono ?_
          rintro o _ ⟨rfl, rfl⟩
          go_wp2_with fail
          refine (counter_any g _ _ HF.out.1.1).mono ?_
          rintro o _ ⟨rfl, rfl⟩
          go_wp2_with fail
          refine (left_any g _ _ HF.out.1.1).mono ?_
          rintro o _ ⟨rfl, rfl⟩
          go_wp2_with fail
          refine (HNx.out _).mono ?_
          rintro o w2 ⟨rfl, hb⟩
          have H2 := Lib.hid (HF.out.1.callee hb)
          clear hb HNx hc
          go_wp2_with fail
          refine (HT.out _ H2.out).mono ?_
          rintro o w3 ⟨rfl, h⟩
          have HG : Hid (Al W w3 g x ∧ Inv x ∧ Same ⟨r, mc, mt, 0, 0, 0⟩ x) := ⟨h, HF.out.2⟩
          clear h HT H2 HF
          go_wp2_with fail
          refine (state_any g _ _ HG.out.1.1).mono ?_
          rintro o _ ⟨rfl, rfl⟩
          go_wp2_with fail
          refine (counter_any g _ _ HG.out.1.1).mono ?_
          rintro o _ ⟨rfl, rfl⟩
          go_wp2_with fail
          refine (left_any g _ _ HG.out.1.1).mono ?_
          rintro o _ ⟨rfl, rfl⟩
          have d0 : w3.cell? ⟨w.heap.size, 0, none⟩ = some (.int .i64 r) := (HG.out.1.2.1.cell (p := ⟨w.heap.size, 0, none⟩) HS.out).trans c0
          have d1 : w3.cell? ⟨w.heap.size, 1, none⟩ = some (.int .i64 mc) := (HG.out.1.2.1.cell (p := ⟨w.heap.size, 1, none⟩) HS.out).trans c1
          have d2 : w3.cell? ⟨w.heap.size, 2, none⟩ = some (.int .i64 mt) := (HG.out.1.2.1.cell (p := ⟨w.heap.size, 2, none⟩) HS.out).trans c2
          have S1 := Lib.hid (state_q HG.out.1.1)
          have C1 := Lib.hid (counter_q HG.out.1.1)
          have L1 := Lib.hid (left_q HG.out.1.1)
          have T1 := Lib.hid (timed_q HG.out.2.1 w3)
          obtain ⟨k1, k2⟩ := HQ.out x HG.out.2.1 HG.out.2.2
          have kl0 : decide ((x.l : Int) < 0) = false := decide_eq_false (by omega)
          have kc0 : decide ((x.c : Int) < 0) = false := decide_eq_false (by omega)
          have kl1 : decide ((r : Int) < (x.l : Int)) = false := decide_eq_false (by omega)
          have kc1 : decide ((mt : Int) < (x.c : Int)) = false := decide_eq_false (by omega)
          have kl2 : decide (r < x.l) = false := decide_eq_false (by omega)
          have kc2 : decide (mt < x.c) = false := decide_eq_false (by omega)
          clear k1 k2
          go_wp2_with fail
          go_quiet (first
            | (go_at_call 10; refine Calls.quiet_of_same (S1.out _))
            | (go_at_call 11; refine Calls.quiet_of_same (C1.out _))
            | (go_at_call 12; refine Calls.quiet_of_same (L1.out _))
            | (go_at_call 19; refine Calls.quiet_of_same (T1.out _)))
          go_wp2
          go_roundw
          case rel => exact ⟨k + 1, x, by omega, by go_num, HG.out.1.drewN _, HG.out.2⟩
          case measure => simp [intOf]; omega
    · obtain rfl : k = n := by omega
      go_wp2_with fail
      refine (alive_any _).mono ?_
      rintro o w2 ⟨rfl, hb⟩
      have H2 := Lib.hid ((HF.out.1.callee hb).low HB.out)
      clear hb
      go_wp2
      go_ret
      exact ⟨rfl, H2.out⟩
set_option maxHeartbeats 8000000 in
set_option maxRecDepth 100000 in
theorem walk_more (r mc mt : Nat) (A : Option Addr) (n c : Nat) (w : World) (hn : ¬ 3000 < n) (hm : may r mc mt = true) (hmm : ¬ mc < mt) (hI : Ints w w.heap.size A n .u8) :
    Calls Try.prog 5 #[.agg #[.int .i64 r, .int .i64 mc, .int .i64 mt], .slice A n c] w fun e w' => e = .returned (.bool true) ∧ Below w.heap.size w w' := by
  obtain ⟨W, hW, c0, c1, c2, HB⟩ := boxC w r mc mt
  have HS : Hid (w.heap.size < W.heap.size) := by
    show _ < _
    rw [← hW]
    simp
  have HI := Lib.hid hI
  have HV := Lib.hid (new_inv hm)
  have HL := Lib.hid (fun w => long_no A n c w hn)
  have HN := Lib.hid (fun w => new_ok r mc mt w hm)
  have hn1 : (n : Int) ≤ 3000 := by omega
  have HQ : Hid (∀ z : Au, Inv z → Same ⟨r, mc, mt, 0, 0, 0⟩ z → z.l ≤ r ∧ z.c ≤ mc) := fun z hi hs => by
    have h1 := hi.l
    have h2 := hi.c
    obtain ⟨e1, e2, e3⟩ := hs
    simp only at e1 e2 e3
    rw [e1] at h1
    rw [e2, e3] at h2
    exact ⟨h1, by omega⟩
  have hmi : (mt : Int) ≤ (mc : Int) := by omega
  clear hn hm hI hmm
  go_enter Try.func5, Try.ntmps5
  go_wp2_with fail
  refine (HL.out _).mono ?_
  rintro o _ ⟨rfl, rfl⟩
  go_wp2_with fail
  refine (HN.out _).mono ?_
  rintro o w1 ⟨g, rfl, hg, ha, hb⟩
  have H1 : Hid (Al W w1 g ⟨r, mc, mt, 0, 0, 0⟩) := Al.new (Below.refl _ _) ha hg hb
  clear hg ha hb HN
  go_wp2_with fail
  go_loopw [7] (fun i wr => ∃ (k : Nat) (x : Au), k ≤ n ∧ i = .int .i64 k ∧ Hid (Al W wr g x ∧ Inv x ∧ Same ⟨r, mc, mt, 0, 0, 0⟩ x)) (fun i _ => n - (intOf i).toNat)
  case atStart => exact ⟨0, _, Nat.zero_le _, rfl, H1.out, HV.out, .refl _⟩
  case round =>
    obtain ⟨k, x, hk, rfl, HF⟩ := hrel
    by_cases hlt : k < n
    · obtain ⟨ad, y, rfl, hyb, hc⟩ := event_at (HI.out.below (HF.out.1.low HB.out)) hlt
      obtain ⟨ev, hev, he1⟩ : ∃ ev : Nat, ev < 17 ∧ (y : Int).tmod 17 = (ev : Int) := ⟨y % 17, Nat.mod_lt _ (by decide), rfl⟩
      have hy0 : (0 : Int) ≤ y := Int.natCast_nonneg y
      have hy1 : (y : Int) ≤ 255 := by omega
      have hk1 : (k : Int) < (n : Int) := by omega
      by_cases h16 : ev = 16
      · have hq : ((ev : Int) == 16) = true := by rw [h16]; rfl
        have HT := Lib.hid (tick_any x g wr HF.out.1.1 HF.out.2.1)
        clear h16
        go_wp2_with fail
        refine (state_any g _ _ HF.out.1.1).mono ?_
        rintro o _ ⟨rfl, rfl⟩
        go_wp2_with fail
        refine (counter_any g _ _ HF.out.1.1).mono ?_
        rintro o _ ⟨rfl, rfl⟩
        go_wp2_with fail
        refine (left_any g _ _ HF.out.1.1).mono ?_
        rintro o _ ⟨rfl, rfl⟩
        go_wp2_with fail
        refine HT.out.mono ?_
        rintro o w3 ⟨rfl, ha, hm⟩
        have HG : Hid (Al W w3 g (tk x) ∧ Inv (tk x) ∧ Same ⟨r, mc, mt, 0, 0, 0⟩ (tk x)) := ⟨HF.out.1.moves hm ha, tk_inv HF.out.2.1, HF.out.2.2.trans (tk_same x)⟩
        clear ha hm hc HT HF
        generalize tk x = z at HG
        have d0 : w3.cell? ⟨w.heap.size, 0, none⟩ = some (.int .i64 r) := (HG.out.1.2.1.cell (p := ⟨w.heap.size, 0, none⟩) HS.out).trans c0
        have d1 : w3.cell? ⟨w.heap.size, 1, none⟩ = some (.int .i64 mc) := (HG.out.1.2.1.cell (p := ⟨w.heap.size, 1, none⟩) HS.out).trans c1
        have d2 : w3.cell? ⟨w.heap.size, 2, none⟩ = some (.int .i64 mt) := (HG.out.1.2.1.cell (p := ⟨w.heap.size, 2, none⟩) HS.out).trans c2
        have S1 := Lib.hid (state_q HG.out.1.1)
        have C1 := Lib.hid (counter_q HG.out.1.1)
        have L1 := Lib.hid (left_q HG.out.1.1)
        have T1 := Lib.hid (timed_q HG.out.2.1 w3)
        obtain ⟨k1, k2⟩ := HQ.out z HG.out.2.1 HG.out.2.2
        have kl0 : decide ((z.l : Int) < 0) = false := decide_eq_false (by omega)
        have kc0 : decide ((z.c : Int) < 0) = false := decide_eq_false (by omega)
        have kl1 : decide ((r : Int) < (z.l : Int)) = false := decide_eq_false (by omega)
        have kc1 : decide ((mc : Int) < (z.c : Int)) = false := decide_eq_false (by omega)
        have kl2 : decide (r < z.l) = false := decide_eq_false (by omega)
        have kc2 : decide (mc < z.c) = false := decide_eq_false (by omega)
        clear k1 k2
        go_wp2_with fail
        go_quiet (first
          | (go_at_call 10; refine Calls.quiet_of_same (S1.out _))
          | (go_at_call 11; refine Calls.quiet_of_same (C1.out _))
          | (go_at_call 12; refine Calls.quiet_of_same (L1.out _))
          | (go_at_call 19; refine Calls.quiet_of_same (T1.out _)))
        go_wp2
        go_roundw
        case rel => exact ⟨k + 1, z, by omega, by go_num, HG.out.1.drewN _, HG.out.2⟩
        case measure => simp [intOf]; omega
      · have hq : ((ev : Int) == 16) = false := by rw [beq_eq_false_iff_ne]; omega
        have HNx : Hid (∀ w, Calls Try.prog 20 #[.int .u8 x.s, .int .u8 ev] w fun o w' => o = .returned (.tuple #[.int .u16 (nA x.s ev), .int .u8 (nN x.s ev), .int .i64 (nE x.s ev)]) ∧ Below w.heap.size w w') := fun w => next_any x.s ev w
        by_cases hz : nE x.s ev = 0
        · by_cases h4 : ev = 4
          · have e4 : ((ev : Int) != 4) = false := by rw [h4]; rfl
            have hNE : ((nE x.s ev : Int) == 0) = true := by rw [hz]; rfl
            obtain ⟨r1, r2, r3⟩ := refused HF.out.2.1.s (show nE x.s ev ≠ 0 ∨ ev = 4 ∨ ev = 5 from .inr (.inl h4))
            clear h4 hz h16
            have HT : Hid (∀ w', Al W w' g x → Calls Try.prog 8 #[.pointer (some ⟨g, 0, none⟩), .int .u8 ev] w' fun o w'' => o = .returned (.tuple #[.int .u16 (0 : Nat), .int .i64 (evE x ev)]) ∧ Al W w'' g x) := fun w' h => ev_at x ev 0 _ h HF.out.2.1 r3 r1 rfl
            have hE : ((evE x ev : Int) != 0) = true := by rw [bne_iff_ne]; omega
            have hE2 : ((evE x ev : Int) == 0) = false := by rw [beq_eq_false_iff_ne]; omega
            clear r1 r2 r3
            generalize evE x ev = E at *
            generalize nE x.s ev = NE at *
            generalize nN x.s ev = NN at *
            generalize nA x.s ev = NA at *
            go_wp2_with fail
            refine (state_any g _ _ HF.out.1.1).mono ?_
            rintro o _ ⟨rfl, rfl⟩
            go_wp2_with fail
            refine (counter_any g _ _ HF.out.1.1).mono ?_
            rintro o _ ⟨rfl, rfl⟩
            go_wp2_with fail
            refine (left_any g _ _ HF.out.1.1).mono ?_
            rintro o _ ⟨rfl, rfl⟩
            go_wp2_with fail
            refine (HNx.out _).mono ?_
            rintro o w2 ⟨rfl, hb⟩
            have H2 := Lib.hid (HF.out.1.callee hb)
            clear hb HNx hc
            go_wp2_with fail
            refine (HT.out _ H2.out).mono ?_
            rintro o w3 ⟨rfl, h⟩
            have HG : Hid (Al W w3 g x ∧ Inv x ∧ Same ⟨r, mc, mt, 0, 0, 0⟩ x) := ⟨h, HF.out.2⟩
            clear h HT H2 HF
            go_wp2_with fail
            refine (state_any g _ _ HG.out.1.1).mono ?_
            rintro o _ ⟨rfl, rfl⟩
            go_wp2_with fail
            refine (counter_any g _ _ HG.out.1.1).mono ?_
            rintro o _ ⟨rfl, rfl⟩
            go_wp2_with fail
            refine (left_any g _ _ HG.out.1.1).mono ?_
            rintro o _ ⟨rfl, rfl⟩
            have d0 : w3.cell? ⟨w.heap.size, 0, none⟩ = some (.int .i64 r) := (HG.out.1.2.1.cell (p := ⟨w.heap.size, 0, none⟩) HS.out).trans c0
            have d1 : w3.cell? ⟨w.heap.size, 1, none⟩ = some (.int .i64 mc) := (HG.out.1.2.1.cell (p := ⟨w.heap.size, 1, none⟩) HS.out).trans c1
            have d2 : w3.cell? ⟨w.heap.size, 2, none⟩ = some (.int .i64 mt) := (HG.out.1.2.1.cell (p := ⟨w.heap.size, 2, none⟩) HS.out).trans c2
            have S1 := Lib.hid (state_q HG.out.1.1)
            have C1 := Lib.hid (counter_q HG.out.1.1)
            have L1 := Lib.hid (left_q HG.out.1.1)
            have T1 := Lib.hid (timed_q HG.out.2.1 w3)
            obtain ⟨k1, k2⟩ := HQ.out x HG.out.2.1 HG.out.2.2
            have kl0 : decide ((x.l : Int) < 0) = false := decide_eq_false (by omega)
            have kc0 : decide ((x.c : Int) < 0) = false := decide_eq_false (by omega)
            have kl1 : decide ((r : Int) < (x.l : Int)) = false := decide_eq_false (by omega)
            have kc1 : decide ((mc : Int) < (x.c : Int)) = false := decide_eq_false (by omega)
            have kl2 : decide (r < x.l) = false := decide_eq_false (by omega)
            have kc2 : decide (mc < x.c) = false := decide_eq_false (by omega)
            clear k1 k2
            go_wp2_with fail
            go_quiet (first
              | (go_at_call 10; refine Calls.quiet_of_same (S1.out _))
              | (go_at_call 11; refine Calls.quiet_of_same (C1.out _))
              | (go_at_call 12; refine Calls.quiet_of_same (L1.out _))
              | (go_at_call 19; refine Calls.quiet_of_same (T1.out _)))
            go_wp2
            go_roundw
            case rel => exact ⟨k + 1, x, by omega, by go_num, HG.out.1.drewN _, HG.out.2⟩
            case measure => simp [intOf]; omega
          · have e4 : ((ev : Int) != 4) = true := by rw [bne_iff_ne]; omega
            by_cases h5 : ev = 5
            · have e5 : ((ev : Int) != 5) = false := by rw [h5]; rfl
              have hNE : ((nE x.s ev : Int) == 0) = true := by rw [hz]; rfl
              obtain ⟨r1, r2, r3⟩ := refused HF.out.2.1.s (show nE x.s ev ≠ 0 ∨ ev = 4 ∨ ev = 5 from .inr (.inr h5))
              clear h4 h5 hz h16
              have HT : Hid (∀ w', Al W w' g x → Calls Try.prog 8 #[.pointer (some ⟨g, 0, none⟩), .int .u8 ev] w' fun o w'' => o = .returned (.tuple #[.int .u16 (0 : Nat), .int .i64 (evE x ev)]) ∧ Al W w'' g x) := fun w' h => ev_at x ev 0 _ h HF.out.2.1 r3 r1 rfl
              have hE : ((evE x ev : Int) != 0) = true := by rw [bne_iff_ne]; omega
              have hE2 : ((evE x ev : Int) == 0) = false := by rw [beq_eq_false_iff_ne]; omega
              clear r1 r2 r3
              generalize evE x ev = E at *
              generalize nE x.s ev = NE at *
              generalize nN x.s ev = NN at *
              generalize nA x.s ev = NA at *
              go_wp2_with fail
              refine (state_any g _ _ HF.out.1.1).mono ?_
              rintro o _ ⟨rfl, rfl⟩
              go_wp2_with fail
              refine (counter_any g _ _ HF.out.1.1).mono ?_
              rintro o _ ⟨rfl, rfl⟩
              go_wp2_with fail
              refine (left_any g _ _ HF.out.1.1).mono ?_
              rintro o _ ⟨rfl, rfl⟩
              go_wp2_with fail
              refine (HNx.out _).mono ?_
              rintro o w2 ⟨rfl, hb⟩
              have H2 := Lib.hid (HF.out.1.callee hb)
              clear hb HNx hc
              go_wp2_with fail
              refine (HT.out _ H2.out).mono ?_
              rintro o w3 ⟨rfl, h⟩
              have HG : Hid (Al W w3 g x ∧ Inv x ∧ Same ⟨r, mc, mt, 0, 0, 0⟩ x) := ⟨h, HF.out.2⟩
              clear h HT H2 HF
              go_wp2_with fail
              refine (state_any g _ _ HG.out.1.1).mono ?_
              rintro o _ ⟨rfl, rfl⟩
              go_wp2_with fail
              refine (counter_any g _ _ HG.out.1.1).mono ?_
              rintro o _ ⟨rfl, rfl⟩
              go_wp2_with fail
              refine (left_any g _ _ HG.out.1.1).mono ?_
              rintro o _ ⟨rfl, rfl⟩
              have d0 : w3.cell? ⟨w.heap.size, 0, none⟩ = some (.int .i64 r) := (HG.out.1.2.1.cell (p := ⟨w.heap.size, 0, none⟩) HS.out).trans c0
              have d1 : w3.cell? ⟨w.heap.size, 1, none⟩ = some (.int .i64 mc) := (HG.out.1.2.1.cell (p := ⟨w.heap.size, 1, none⟩) HS.out).trans c1
              have d2 : w3.cell? ⟨w.heap.size, 2, none⟩ = some (.int .i64 mt) := (HG.out.1.2.1.cell (p := ⟨w.heap.size, 2, none⟩) HS.out).trans c2
              have S1 := Lib.hid (state_q HG.out.1.1)
              have C1 := Lib.hid (counter_q HG.out.1.1)
              have L1 := Lib.hid (left_q HG.out.1.1)
              have T1 := Lib.hid (timed_q HG.out.2.1 w3)
              obtain ⟨k1, k2⟩ := HQ.out x HG.out.2.1 HG.out.2.2
              have kl0 : decide ((x.l : Int) < 0) = false := decide_eq_false (by omega)
              have kc0 : decide ((x.c : Int) < 0) = false := decide_eq_false (by omega)
              have kl1 : decide ((r : Int) < (x.l : Int)) = false := decide_eq_false (by omega)
              have kc1 : decide ((mc : Int) < (x.c : Int)) = false := decide_eq_false (by omega)
              have kl2 : decide (r < x.l) = false := decide_eq_false (by omega)
              have kc2 : decide (mc < x.c) = false := decide_eq_false (by omega)
              clear k1 k2
              go_wp2_with fail
              go_quiet (first
                | (go_at_call 10; refine Calls.quiet_of_same (S1.out _))
                | (go_at_call 11; refine Calls.quiet_of_same (C1.out _))
                | (go_at_call 12; refine Calls.quiet_of_same (L1.out _))
                | (go_at_call 19; refine Calls.quiet_of_same (T1.out _)))
              go_wp2
              go_roundw
              case rel => exact ⟨k + 1, x, by omega, by go_num, HG.out.1.drewN _, HG.out.2⟩
              case measure => simp [intOf]; omega
            · have e5 : ((ev : Int) != 5) = true := by rw [bne_iff_ne]; omega
              obtain ⟨r1, r2⟩ := done hz (show ¬ (ev = 4 ∨ ev = 5) by omega)
              have HT : Hid (∀ w', Al W w' g x → Calls Try.prog 8 #[.pointer (some ⟨g, 0, none⟩), .int .u8 ev] w' fun o w'' => o = .returned (.tuple #[.int .u16 (evA x ev), .int .i64 (0 : Nat)]) ∧ Al W w'' g (evX x ev)) := fun w' h => ev_at _ ev _ 0 h HF.out.2.1 rfl rfl r1
              have HJ : Hid (Inv (evX x ev) ∧ Same ⟨r, mc, mt, 0, 0, 0⟩ (evX x ev)) := ⟨evX_inv HF.out.2.1 ev, HF.out.2.2.trans (evX_same x ev)⟩
              rw [hz, ← r2] at HNx
              clear h4 h5 hz h16 r1 r2
              generalize evX x ev = z at *
              generalize evA x ev = EA at *
              generalize nA x.s ev = NA at *
              go_wp2_with fail
              refine (state_any g _ _ HF.out.1.1).mono ?_
              rintro o _ ⟨rfl, rfl⟩
              go_wp2_with fail
              refine (counter_any g _ _ HF.out.1.1).mono ?_
              rintro o _ ⟨rfl, rfl⟩
              go_wp2_with fail
              refine (left_any g _ _ HF.out.1.1).mono ?_
              rintro o _ ⟨rfl, rfl⟩
              go_wp2_with fail
              refine (HNx.out _).mono ?_
              rintro o w2 ⟨rfl, hb⟩
              have H2 := Lib.hid (HF.out.1.callee hb)
              clear hb HNx hc
              go_wp2_with fail
              refine (HT.out _ H2.out).mono ?_
              rintro o w3 ⟨rfl, h⟩
              have HG : Hid (Al W w3 g z ∧ Inv z ∧ Same ⟨r, mc, mt, 0, 0, 0⟩ z) := ⟨h, HJ.out⟩
              clear h HT H2 HF HJ
              go_wp2_with fail
              refine (state_any g _ _ HG.out.1.1).mono ?_
              rintro o _ ⟨rfl, rfl⟩
              have d0 : w3.cell? ⟨w.heap.size, 0, none⟩ = some (.int .i64 r) := (HG.out.1.2.1.cell (p := ⟨w.heap.size, 0, none⟩) HS.out).trans c0
              have d1 : w3.cell? ⟨w.heap.size, 1, none⟩ = some (.int .i64 mc) := (HG.out.1.2.1.cell (p := ⟨w.heap.size, 1, none⟩) HS.out).trans c1
              have d2 : w3.cell? ⟨w.heap.size, 2, none⟩ = some (.int .i64 mt) := (HG.out.1.2.1.cell (p := ⟨w.heap.size, 2, none⟩) HS.out).trans c2
              have S1 := Lib.hid (state_q HG.out.1.1)
              have C1 := Lib.hid (counter_q HG.out.1.1)
              have L1 := Lib.hid (left_q HG.out.1.1)
              have T1 := Lib.hid (timed_q HG.out.2.1 w3)
              obtain ⟨k1, k2⟩ := HQ.out z HG.out.2.1 HG.out.2.2
              have kl0 : decide ((z.l : Int) < 0) = false := decide_eq_false (by omega)
              have kc0 : decide ((z.c : Int) < 0) = false := decide_eq_false (by omega)
              have kl1 : decide ((r : Int) < (z.l : Int)) = false := decide_eq_false (by omega)
              have kc1 : decide ((mc : Int) < (z.c : Int)) = false := decide_eq_false (by omega)
              have kl2 : decide (r < z.l) = false := decide_eq_false (by omega)
              have kc2 : decide (mc < z.c) = false := decide_eq_false (by omega)
              clear k1 k2
              go_wp2_with fail
              go_quiet (first
                | (go_at_call 10; refine Calls.quiet_of_same (S1.out _))
                | (go_at_call 11; refine Calls.quiet_of_same (C1.out _))
                | (go_at_call 12; refine Calls.quiet_of_same (L1.out _))
                | (go_at_call 19; refine Calls.quiet_of_same (T1.out _)))
              go_wp2
              go_roundw
              case rel => exact ⟨k + 1, z, by omega, by go_num, HG.out.1.drewN _, HG.out.2⟩
              case measure => simp [intOf]; omega
        · have hNE : ((nE x.s ev : Int) == 0) = false := by rw [beq_eq_false_iff_ne]; omega
          obtain ⟨r1, r2, r3⟩ := refused HF.out.2.1.s (show nE x.s ev ≠ 0 ∨ ev = 4 ∨ ev = 5 from .inl hz)
          clear hz h16
          have HT : Hid (∀ w', Al W w' g x → Calls Try.prog 8 #[.pointer (some ⟨g, 0, none⟩), .int .u8 ev] w' fun o w'' => o = .returned (.tuple #[.int .u16 (0 : Nat), .int .i64 (evE x ev)]) ∧ Al W w'' g x) := fun w' h => ev_at x ev 0 _ h HF.out.2.1 r3 r1 rfl
          have hE : ((evE x ev : Int) != 0) = true := by rw [bne_iff_ne]; omega
          have hE2 : ((evE x ev : Int) == 0) = false := by rw [beq_eq_false_iff_ne]; omega
          clear r1 r2 r3
          generalize evE x ev = E at *
          generalize nE x.s ev = NE at *
          generalize nN x.s ev = NN at *
          generalize nA x.s ev = NA at *
          go_wp2_with fail
          refine (state_any g _ _ HF.out.1.1).mono ?_
          rintro o _ ⟨rfl, rfl⟩
          go_wp2_with fail
          refine (counter_any g _ _ HF.out.1.1).mono ?_
          rintro o _ ⟨rfl, rfl⟩
          go_wp2_with fail
          refine (left_any g _ _ HF.out.1.1).mono ?_
          rintro o _ ⟨rfl, rfl⟩
          go_wp2_with fail
          refine (HNx.out _).mono ?_
          rintro o w2 ⟨rfl, hb⟩
          have H2 := Lib.hid (HF.out.1.callee hb)
          clear hb HNx hc
          go_wp2_with fail
          refine (HT.out _ H2.out).mono ?_
          rintro o w3 ⟨rfl, h⟩
          have HG : Hid (Al W w3 g x ∧ Inv x ∧ Same ⟨r, mc, mt, 0, 0, 0⟩ x) := ⟨h, HF.out.2⟩
          clear h HT H2 HF
          go_wp2_with fail
          refine (state_any g _ _ HG.out.1.1).mono ?_
          rintro o _ ⟨rfl, rfl⟩
          go_wp2_with fail
          refine (counter_any g _ _ HG.out.1.1).mono ?_
          rintro o _ ⟨rfl, rfl⟩
          go_wp2_with fail
          refine (left_any g _ _ HG.out.1.1).mono ?_
          rintro o _ ⟨rfl, rfl⟩
          have d0 : w3.cell? ⟨w.heap.size, 0, none⟩ = some (.int .i64 r) := (HG.out.1.2.1.cell (p := ⟨w.heap.size, 0, none⟩) HS.out).trans c0
          have d1 : w3.cell? ⟨w.heap.size, 1, none⟩ = some (.int .i64 mc) := (HG.out.1.2.1.cell (p := ⟨w.heap.size, 1, none⟩) HS.out).trans c1
          have d2 : w3.cell? ⟨w.heap.size, 2, none⟩ = some (.int .i64 mt) := (HG.out.1.2.1.cell (p := ⟨w.heap.size, 2, none⟩) HS.out).trans c2
          have S1 := Lib.hid (state_q HG.out.1.1)
          have C1 := Lib.hid (counter_q HG.out.1.1)
          have L1 := Lib.hid (left_q HG.out.1.1)
          have T1 := Lib.hid (timed_q HG.out.2.1 w3)
          obtain ⟨k1, k2⟩ := HQ.out x HG.out.2.1 HG.out.2.2
          have kl0 : decide ((x.l : Int) < 0) = false := decide_eq_false (by omega)
          have kc0 : decide ((x.c : Int) < 0) = false := decide_eq_false (by omega)
          have kl1 : decide ((r : Int) < (x.l : Int)) = false := decide_eq_false (by omega)
          have kc1 : decide ((mc : Int) < (x.c : Int)) = false := decide_eq_false (by omega)
          have kl2 : decide (r < x.l) = false := decide_eq_false (by omega)
          have kc2 : decide (mc < x.c) = false := decide_eq_false (by omega)
          clear k1 k2
          go_wp2_with fail
          go_quiet (first
            | (go_at_call 10; refine Calls.quiet_of_same (S1.out _))
            | (go_at_call 11; refine Calls.quiet_of_same (C1.out _))
            | (go_at_call 12; refine Calls.quiet_of_same (L1.out _))
            | (go_at_call 19; refine Calls.quiet_of_same (T1.out _)))
          go_wp2
          go_roundw
          case rel => exact ⟨k + 1, x, by omega, by go_num, HG.out.1.drewN _, HG.out.2⟩
          case measure => simp [intOf]; omega
    · obtain rfl : k = n := by omega
      go_wp2_with fail
      refine (alive_any _).mono ?_
      rintro o w2 ⟨rfl, hb⟩
      have H2 := Lib.hid ((HF.out.1.callee hb).low HB.out)
      clear hb
      go_wp2
      go_ret
      exact ⟨rfl, H2.out⟩
theorem walk (a b d : Int) (A : Option Addr) (n c : Nat) (w : World) (_ : n ≤ maxLen) (hI : Ints w w.heap.size A n .u8) :
    Calls Try.prog 5 #[.agg #[.int .i64 a, .int .i64 b, .int .i64 d], .slice A n c] w fun e w' => e = .returned (.bool true) ∧ Below w.heap.size w w' := by
  by_cases hn : 3000 < n
  · exact walk_long a b d A n c w hn
  · cases hm : may a b d
    · exact walk_no a b d A n c w hn hm
    · obtain ⟨r, mc, mt, rfl, rfl, rfl⟩ := may_nat hm
      by_cases hmm : mc < mt
      · exact walk_less r mc mt A n c w hn hm hmm hI
      · exact walk_more r mc mt A n c w hn hm hmm hI

set_option maxRecDepth 100000 in
theorem lifted (os : Os) (started : os.Started) (H : Type) (enc : TypeId × Value → H) :
    ReturnsInHanded {} Try.checked os 5 .any (Rows.autoTimerSpec.pre6 enc Try.prog Try.f5 Rows.autoTimerRow.domain false) (Rows.autoTimerSpec.post enc Try.prog Try.f5 false true false false) := by
  refine returnsInHanded_of_change (C := Try.checked) own started (by kernel_rfl) Try.func5
    (ChangeSpec.witness6 (enc := enc) (C := Try.checked) false ⟨#[], #[.agg #[.int .i64 0, .int .i64 0, .int .i64 0], .slice none 0 0], []⟩ 8 (by kernel_rfl) (by kernel_rfl) (by kernel_rfl) (by kernel_rfl)) ?_
  intro W base args ds gs before hval0 hW hcnd _
  have hval : ∀ (j : Nat) t v, Try.f5.params[j]? = some t → args[j]? = some v → Value.okWide Try.prog W .any base t v := hval0
  have hW' := hW
  obtain ⟨p, q, hA0, hV, rfl, hfz, hnd⟩ := hW
  have hlt := hW'.lt
  have hA : DataW.TrodAll enc Try.prog W 0 (fun _ => true) true Try.f5.params.toList args.toList ds p := hA0
  rw [Try.params5] at hA hval
  obtain ⟨v0, vs0, d0, ds0, p0, q0, hargs, rfl, rfl, h0, r0⟩ := trodAll_cons hA
  obtain ⟨v1, vs1, d1, ds1, p1, q1, rfl, rfl, rfl, h1, r1⟩ := trodAll_cons r0
  obtain ⟨rfl, rfl, rfl⟩ := trodAll_nil r1
  obtain rfl : args = #[v0, v1] := by cases args; simp_all
  obtain ⟨rfl, rfl⟩ := trodVars_none hV
  obtain ⟨a0, b0, c0, rfl⟩ := int3_of Try.underlying23 (by kernel_rfl) (by kernel_rfl) Try.underlying3 Try.underlying3 Try.underlying3 (hval 0 23 v0 rfl rfl) h0
  obtain ⟨A1, n1, c1, rfl, m1, hI1⟩ := ints_of Try.underlying24 Try.underlying5 (by kernel_rfl) (hval 1 24 v1 rfl rfl) h1
  clear hA0 hval0
  exact (walk a0 b0 c0 A1 n1 c1 W m1 hI1).mono fun e W' ⟨he, hb⟩ => ⟨_, he, law_post (t := 4) laidOut (by kernel_rfl) rfl rfl Try.underlying4 ⟨rfl, rfl, rfl⟩ hW' hb⟩

theorem over : Rows.autoTimerRow.holds Try.pinned (OpenSpec.ofChange Rows.autoTimerSpec) :=
  OpenClaim.holds_of_wide 5 Try.f5 rfl rfl rfl rfl rfl rfl rfl ⟨rfl, rfl, rfl, rfl, rfl⟩ rfl rfl rfl rfl rfl (by kernel_rfl) Try.func5 (by kernel_rfl)
    (of_decide_eq_true (by kernel_rfl)) (by unfold Func.isWrapper; first | (rw [if_pos (by decide +kernel)]; kernel_rfl) | (rw [if_neg (by decide +kernel)]; exact ⟨rfl, rfl⟩))
    (fun os started H enc _ => lifted os started H enc)

theorem proved : Rows.AutoTimerSaid :=
  over
#print axioms proved
end Go.Proofs.Ytkabjdejljdbiaa.AutoTimer
