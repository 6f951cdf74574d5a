/- PROVED: 'halyardlaw13.AutoPlays' returns true for every conf and every row of bytes, and leaves them as they were. No condition. -/
import Derived.Test.YtkabjdejljdbiaaAutK
import Derived.Test.YtkabjdejljdbiaaLaw
import Derived.Test.YtkabjdejljdbiaaInt3
import Derived.Test.YtkabjdejljdbiaaRows
namespace Go.Proofs.Ytkabjdejljdbiaa.AutoPlays
open Go.ChangeShapes Go.WideShapes Go.ChangeAt Go.RowKit Go.Proofs.Ytkabjdejljdbiaa.Oct Go.Proofs.Ytkabjdejljdbiaa.Row Go.Proofs.Ytkabjdejljdbiaa.Fsm Go.Proofs.Ytkabjdejljdbiaa.Mem Go.Proofs.Ytkabjdejljdbiaa.Law Go.Proofs.Ytkabjdejljdbiaa.Aut

set_option maxHeartbeats 8000000 in
set_option maxRecDepth 100000 in
theorem walk_long (a b d : Int) (A : Option Addr) (n c : Nat) (w : World) (hn : 3000 < n) :
    Calls Try.prog 3 #[.agg #[.int .i64 a, .int .i64 b, .int .i64 d], .slice A n c] w fun e w' => e = .returned (.bool true) ∧ Below w.heap.size w w' := by
  obtain ⟨W, hW, c0, c1, c2, HB⟩ := boxC w a b d
  have HL := Lib.hid (fun w => long_yes A n c w hn)
  clear hn
  go_enter Try.func3, Try.ntmps3
  go_wp2_with fail
  refine (HL.out _).mono ?_
  rintro o _ ⟨rfl, rfl⟩
  go_wp2_with fail
  refine (alive_any _).mono ?_
  rintro o w1 ⟨rfl, hb⟩
  have HE := Lib.hid (HB.out.trans (hb.mono HB.out.size))
  clear hb
  go_wp2
  go_ret
  exact ⟨rfl, HE.out⟩
set_option maxHeartbeats 8000000 in
set_option maxRecDepth 100000 in
theorem walk_no (a b d : Int) (A : Option Addr) (n c : Nat) (w : World) (hn : ¬ 3000 < n) (hm : may a b d = false) :
    Calls Try.prog 3 #[.agg #[.int .i64 a, .int .i64 b, .int .i64 d], .slice A n c] w fun e w' => e = .returned (.bool true) ∧ Below w.heap.size w w' := by
  obtain ⟨W, hW, c0, c1, c2, HB⟩ := boxC w a b d
  have HL := Lib.hid (fun w => long_no A n c w hn)
  have HN := Lib.hid (fun w => new_no a b d w hm)
  have HS : Hid (w.heap.size < W.heap.size) := by
    show _ < _
    rw [← hW]
    simp
  have HM : Hid (∀ w, Calls Try.prog 15 #[.agg #[.int .i64 a, .int .i64 b, .int .i64 d]] w fun o w' => o = .returned (.bool false) ∧ Below w.heap.size w w') := fun w => by have h := rmay_any a b d w; rw [hm] at h; exact h
  clear hn hm
  go_enter Try.func3, Try.ntmps3
  go_wp2_with fail
  refine (HL.out _).mono ?_
  rintro o _ ⟨rfl, rfl⟩
  go_wp2_with fail
  refine ((nil_any _).2.2.2.2.2 0).mono ?_
  rintro o _ ⟨rfl, rfl⟩
  go_wp2_with fail
  refine ((nil_any _).2.2.2.2.1).mono ?_
  rintro o _ ⟨rfl, rfl⟩
  go_wp2_with fail
  refine ((nil_any _).1).mono ?_
  rintro o _ ⟨rfl, rfl⟩
  go_wp2_with fail
  refine ((nil_any _).2.1).mono ?_
  rintro o _ ⟨rfl, rfl⟩
  go_wp2_with fail
  refine ((nil_any _).2.2.1).mono ?_
  rintro o _ ⟨rfl, rfl⟩
  go_wp2_with fail
  refine ((nil_any _).2.2.2.1).mono ?_
  rintro o _ ⟨rfl, rfl⟩
  go_wp2_with fail
  refine (HN.out _).mono ?_
  rintro o w1 ⟨rfl, hb⟩
  have H1 := Lib.hid hb
  clear hb HN
  have d0 : w1.cell? ⟨w.heap.size, 0, none⟩ = some (.int .i64 a) := ((H1.out).cell (p := ⟨w.heap.size, 0, none⟩) HS.out).trans c0
  have d1 : w1.cell? ⟨w.heap.size, 1, none⟩ = some (.int .i64 b) := ((H1.out).cell (p := ⟨w.heap.size, 1, none⟩) HS.out).trans c1
  have d2 : w1.cell? ⟨w.heap.size, 2, none⟩ = some (.int .i64 d) := ((H1.out).cell (p := ⟨w.heap.size, 2, none⟩) HS.out).trans c2
  go_wp2_with fail
  refine (HM.out _).mono ?_
  rintro o w2 ⟨rfl, hb⟩
  have H2 := Lib.hid (H1.out.trans (hb.mono H1.out.size))
  clear hb
  go_wp2_with fail
  refine (alive_any _).mono ?_
  rintro o w3 ⟨rfl, hb⟩
  have H3 := Lib.hid (HB.out.trans ((H2.out.trans (hb.mono H2.out.size)).mono HB.out.size))
  clear hb
  go_wp2
  go_ret
  exact ⟨rfl, H3.out⟩
set_option maxHeartbeats 8000000 in
set_option maxRecDepth 100000 in
theorem walk_yes (r mc mt : Nat) (A : Option Addr) (n c : Nat) (w : World) (hn : ¬ 3000 < n) (hm : may r mc mt = true) (hI : Ints w w.heap.size A n .u8) :
    Calls Try.prog 3 #[.agg #[.int .i64 r, .int .i64 mc, .int .i64 mt], .slice A n c] w fun e w' => e = .returned (.bool true) ∧ Below w.heap.size w w' := by
  obtain ⟨W, hW, c0, c1, c2, HB⟩ := boxC w r mc mt
  have HS : Hid (w.heap.size < W.heap.size) := by
    show _ < _
    rw [← hW]
    simp
  have HI := Lib.hid hI
  have HV := Lib.hid (new_inv hm)
  have HL := Lib.hid (fun w => long_no A n c w hn)
  have HN := Lib.hid (fun w => new_ok r mc mt w hm)
  have hn1 : (n : Int) ≤ 3000 := by omega
  have HM : Hid (∀ w, Calls Try.prog 15 #[.agg #[.int .i64 r, .int .i64 mc, .int .i64 mt]] w fun o w' => o = .returned (.bool true) ∧ Below w.heap.size w w') := fun w => by have h := rmay_any r mc mt w; rw [hm] at h; exact h
  clear hn hm hI
  go_enter Try.func3, Try.ntmps3
  go_wp2_with fail
  refine (HL.out _).mono ?_
  rintro o _ ⟨rfl, rfl⟩
  go_wp2_with fail
  refine ((nil_any _).2.2.2.2.2 0).mono ?_
  rintro o _ ⟨rfl, rfl⟩
  go_wp2_with fail
  refine ((nil_any _).2.2.2.2.1).mono ?_
  rintro o _ ⟨rfl, rfl⟩
  go_wp2_with fail
  refine ((nil_any _).1).mono ?_
  rintro o _ ⟨rfl, rfl⟩
  go_wp2_with fail
  refine ((nil_any _).2.1).mono ?_
  rintro o _ ⟨rfl, rfl⟩
  go_wp2_with fail
  refine ((nil_any _).2.2.1).mono ?_
  rintro o _ ⟨rfl, rfl⟩
  go_wp2_with fail
  refine ((nil_any _).2.2.2.1).mono ?_
  rintro o _ ⟨rfl, rfl⟩
  go_wp2_with fail
  refine (HN.out _).mono ?_
  rintro o w1 ⟨g, rfl, hg, ha, hb⟩
  have H1 : Hid (Al W w1 g ⟨r, mc, mt, 0, 0, 0⟩) := Al.new (Below.refl _ _) ha hg hb
  clear hg ha hb HN
  have d0 : w1.cell? ⟨w.heap.size, 0, none⟩ = some (.int .i64 r) := ((H1.out.2.1).cell (p := ⟨w.heap.size, 0, none⟩) HS.out).trans c0
  have d1 : w1.cell? ⟨w.heap.size, 1, none⟩ = some (.int .i64 mc) := ((H1.out.2.1).cell (p := ⟨w.heap.size, 1, none⟩) HS.out).trans c1
  have d2 : w1.cell? ⟨w.heap.size, 2, none⟩ = some (.int .i64 mt) := ((H1.out.2.1).cell (p := ⟨w.heap.size, 2, none⟩) HS.out).trans c2
  go_wp2_with fail
  refine (HM.out _).mono ?_
  rintro o w2 ⟨rfl, hb⟩
  have H2 := Lib.hid (H1.out.callee hb)
  clear hb H1 HM d0 d1 d2
  have d0 : w2.cell? ⟨w.heap.size, 0, none⟩ = some (.int .i64 r) := ((H2.out.2.1).cell (p := ⟨w.heap.size, 0, none⟩) HS.out).trans c0
  have d1 : w2.cell? ⟨w.heap.size, 1, none⟩ = some (.int .i64 mc) := ((H2.out.2.1).cell (p := ⟨w.heap.size, 1, none⟩) HS.out).trans c1
  have d2 : w2.cell? ⟨w.heap.size, 2, none⟩ = some (.int .i64 mt) := ((H2.out.2.1).cell (p := ⟨w.heap.size, 2, none⟩) HS.out).trans c2
  have H3 : Hid (Two W (w2.alloc (.cells #[.int .i64 r, .int .i64 mc, .int .i64 mt, .int .u8 0, .int .i64 0, .int .i64 0] 42)) g w2.heap.size ⟨r, mc, mt, 0, 0, 0⟩) :=
    ⟨H2.out.1.alloc _, raut_new w2 r mc mt, H2.out.2.1.alloc H2.out.2.1.size _, H2.out.2.2, H2.out.2.1.size, HV.out⟩
  clear H2
  go_wp2_with fail
  generalize w2.heap.size = R at *
  go_loopw [10, 13] (fun p i wr => ∃ (k g : Nat) (x : Au), k ≤ n ∧ p = .pointer (some ⟨g, 0, none⟩) ∧ i = .int .i64 k ∧ Hid (Two W wr g R x)) (fun _ i _ => n - (intOf i).toNat)
  case atStart => exact ⟨0, g, _, Nat.zero_le _, rfl, rfl, H3⟩
  case round =>
    obtain ⟨k, g, x, hk, rfl, rfl, HF⟩ := hrel
    by_cases hlt : k < n
    · obtain ⟨ad, y, rfl, hyb, hc⟩ := event_at (HI.out.below (HF.out.low HB.out)) hlt
      obtain ⟨ev, hev, he1⟩ : ∃ ev : Nat, ev < 40 ∧ (y : Int).tmod 40 = (ev : Int) := ⟨y % 40, Nat.mod_lt _ (by decide), rfl⟩
      obtain ⟨m7, hm7, he7⟩ : ∃ m : Nat, m < 7 ∧ (k : Int).tmod 7 = (m : Int) := ⟨k % 7, Nat.mod_lt _ (by decide), rfl⟩
      have hy0 : (0 : Int) ≤ y := Int.natCast_nonneg y
      have hy1 : (y : Int) ≤ 255 := by omega
      have hk1 : (k : Int) < (n : Int) := by omega
      have hk2 := decide_eq_true hk1
      have hk3 : decide (k < n) = true := decide_eq_true hlt
      have hv1 : (ev : Int) < 40 := by omega
      by_cases h16 : 16 < ev
      · have hv2 : (16 : Int) < (ev : Int) := by omega
        have hv3 := decide_eq_true hv2
        obtain ⟨wo, rfl⟩ : ∃ wo : World, wo = wr := ⟨_, rfl⟩
        go_wp2
        go_loopw [15] (fun p wr => ∃ (j : Nat) (z : Au), 16 ≤ j ∧ j ≤ ev ∧ p = .int .i64 j ∧ Hid (Two W wr g R z)) (fun p _ => ev - (intOf p).toNat)
        case atStart => exact ⟨16, x, Nat.le_refl _, by omega, rfl, HF⟩
        case round =>
          obtain ⟨j, z, hj1, hj2, rfl, HJ⟩ := hrel
          by_cases hje : j < ev
          · have hj3 : (j : Int) < (ev : Int) := by omega
            have HA := Lib.hid (tick_any z g wr HJ.out.a HJ.out.i)
            clear hc
            go_wp2_with fail
            refine HA.out.mono ?_
            rintro o w2 ⟨rfl, ha, hm⟩
            have H2 := Lib.hid (HJ.out.moveA hm ha)
            clear ha hm HA
            go_wp2_with fail
            refine (rtick_any z R _ H2.out.2.1 HJ.out.i).mono ?_
            rintro o w3 ⟨rfl, ha, hm⟩
            have HG := Lib.hid (HJ.out.both H2.out hm ha (tk_inv HJ.out.i))
            clear ha hm H2 HJ HF
            go_wp2
            go_roundw
            case rel => exact ⟨j + 1, tk z, by omega, by omega, by go_num, HG⟩
            case measure => simp [intOf]; omega
          · obtain rfl : j = ev := by omega
            obtain ⟨w3, rfl⟩ : ∃ w3 : World, w3 = wr := ⟨_, rfl⟩
            have HG := HJ
            clear HF hc HJ
            by_cases h7 : m7 = 6
            · have h71 : ((m7 : Int) == 6) = true := by rw [h7]; rfl
              clear h7
              go_wp2_with fail
              refine (copy_any z g _ HG.out.a).mono ?_
              rintro o w4 ⟨b, rfl, hb, ha, hw⟩
              have H4 := Lib.hid (HG.out.copy hb ha hw)
              have HZ := Lib.hid HG.out.i
              clear hb ha hw HG
              go_wp2_with fail
              refine (event_any z g 0 _ H4.out.2.1 HZ.out).mono ?_
              rintro o w5 ⟨rfl, ha, hm⟩
              have H5 := Lib.hid (Two.other H4.out hm ha)
              clear ha hm H4
              go_wp2_with fail
              refine (tick_any _ g _ H5.out.2.1 (evX_inv HZ.out 0)).mono ?_
              rintro o w6 ⟨rfl, ha, hm⟩
              have HG := Lib.hid (Two.other H5.out hm ha).1
              clear ha hm H5 HZ
              have S1 := Lib.hid (state_q HG.out.a)
              have C1 := Lib.hid (counter_q HG.out.a)
              have L1 := Lib.hid (left_q HG.out.a)
              have r3 : w6.cell? ⟨R, 3, none⟩ = some (.int .u8 z.s) := HG.out.r.c 3
              have r4 : w6.cell? ⟨R, 4, none⟩ = some (.int .i64 z.c) := HG.out.r.c 4
              have r5 : w6.cell? ⟨R, 5, none⟩ = some (.int .i64 z.l) := HG.out.r.c 5
              go_wp2_with fail
              go_quiet (first
                | (go_at_call 10; refine Calls.quiet_of_same (S1.out _))
                | (go_at_call 11; refine Calls.quiet_of_same (C1.out _))
                | (go_at_call 12; refine Calls.quiet_of_same (L1.out _)))
              go_wp2
              go_roundw
              case rel => exact ⟨k + 1, b, z, by omega, rfl, by go_num, HG.out.drewN _⟩
              case measure => simp [intOf]; omega
            · have h71 : ((m7 : Int) == 6) = false := by rw [beq_eq_false_iff_ne]; omega
              clear h7
              have S1 := Lib.hid (state_q HG.out.a)
              have C1 := Lib.hid (counter_q HG.out.a)
              have L1 := Lib.hid (left_q HG.out.a)
              have r3 : w3.cell? ⟨R, 3, none⟩ = some (.int .u8 z.s) := HG.out.r.c 3
              have r4 : w3.cell? ⟨R, 4, none⟩ = some (.int .i64 z.c) := HG.out.r.c 4
              have r5 : w3.cell? ⟨R, 5, none⟩ = some (.int .i64 z.l) := HG.out.r.c 5
              go_wp2_with fail
              go_quiet (first
                | (go_at_call 10; refine Calls.quiet_of_same (S1.out _))
                | (go_at_call 11; refine Calls.quiet_of_same (C1.out _))
                | (go_at_call 12; refine Calls.quiet_of_same (L1.out _)))
              go_wp2
              go_roundw
              case rel => exact ⟨k + 1, g, z, by omega, rfl, by go_num, HG.out.drewN _⟩
              case measure => simp [intOf]; omega
      · have hv2 : (ev : Int) ≤ 16 := by omega
        have hv3 : decide ((16 : Int) < (ev : Int)) = false := decide_eq_false (by omega)
        have HA := Lib.hid (event_any x g ev wr HF.out.a HF.out.i)
        clear h16
        go_wp2_with fail
        refine HA.out.mono ?_
        rintro o w2 ⟨rfl, ha, hm⟩
        have H2 := Lib.hid (HF.out.moveA hm ha)
        clear ha hm HA hc
        go_wp2_with fail
        refine (revent_any x R ev _ H2.out.2.1 HF.out.i).mono ?_
        rintro o w3 ⟨rfl, ha, hm⟩
        have HG := Lib.hid (HF.out.both H2.out hm ha (evX_inv HF.out.i ev))
        clear ha hm H2 HF
        generalize evX x ev = z at HG
        by_cases h7 : m7 = 6
        · have h71 : ((m7 : Int) == 6) = true := by rw [h7]; rfl
          clear h7
          go_wp2_with fail
          refine (copy_any z g _ HG.out.a).mono ?_
          rintro o w4 ⟨b, rfl, hb, ha, hw⟩
          have H4 := Lib.hid (HG.out.copy hb ha hw)
          have HZ := Lib.hid HG.out.i
          clear hb ha hw HG
          go_wp2_with fail
          refine (event_any z g 0 _ H4.out.2.1 HZ.out).mono ?_
          rintro o w5 ⟨rfl, ha, hm⟩
          have H5 := Lib.hid (Two.other H4.out hm ha)
          clear ha hm H4
          go_wp2_with fail
          refine (tick_any _ g _ H5.out.2.1 (evX_inv HZ.out 0)).mono ?_
          rintro o w6 ⟨rfl, ha, hm⟩
          have HG := Lib.hid (Two.other H5.out hm ha).1
          clear ha hm H5 HZ
          have S1 := Lib.hid (state_q HG.out.a)
          have C1 := Lib.hid (counter_q HG.out.a)
          have L1 := Lib.hid (left_q HG.out.a)
          have r3 : w6.cell? ⟨R, 3, none⟩ = some (.int .u8 z.s) := HG.out.r.c 3
          have r4 : w6.cell? ⟨R, 4, none⟩ = some (.int .i64 z.c) := HG.out.r.c 4
          have r5 : w6.cell? ⟨R, 5, none⟩ = some (.int .i64 z.l) := HG.out.r.c 5
          go_wp2_with fail
          go_quiet (first
            | (go_at_call 10; refine Calls.quiet_of_same (S1.out _))
            | (go_at_call 11; refine Calls.quiet_of_same (C1.out _))
            | (go_at_call 12; refine Calls.quiet_of_same (L1.out _)))
          go_wp2
          go_roundw
          case rel => exact ⟨k + 1, b, z, by omega, rfl, by go_num, HG.out.drewN _⟩
          case measure => simp [intOf]; omega
        · have h71 : ((m7 : Int) == 6) = false := by rw [beq_eq_false_iff_ne]; omega
          clear h7
          have S1 := Lib.hid (state_q HG.out.a)
          have C1 := Lib.hid (counter_q HG.out.a)
          have L1 := Lib.hid (left_q HG.out.a)
          have r3 : w3.cell? ⟨R, 3, none⟩ = some (.int .u8 z.s) := HG.out.r.c 3
          have r4 : w3.cell? ⟨R, 4, none⟩ = some (.int .i64 z.c) := HG.out.r.c 4
          have r5 : w3.cell? ⟨R, 5, none⟩ = some (.int .i64 z.l) := HG.out.r.c 5
          go_wp2_with fail
          go_quiet (first
            | (go_at_call 10; refine Calls.quiet_of_same (S1.out _))
            | (go_at_call 11; refine Calls.quiet_of_same (C1.out _))
            | (go_at_call 12; refine Calls.quiet_of_same (L1.out _)))
          go_wp2
          go_roundw
          case rel => exact ⟨k + 1, g, z, by omega, rfl, by go_num, HG.out.drewN _⟩
          case measure => simp [intOf]; omega
    · obtain rfl : k = n := by omega
      go_wp2_with fail
      refine (alive_any _).mono ?_
      rintro o w2 ⟨rfl, hb⟩
      have H2 := Lib.hid (HF.out.low HB.out)
      have H3 := Lib.hid (H2.out.trans (hb.mono H2.out.size))
      clear hb
      go_wp2
      go_ret
      exact ⟨rfl, H3.out⟩
theorem walk (a b d : Int) (A : Option Addr) (n c : Nat) (w : World) (_ : n ≤ maxLen) (hI : Ints w w.heap.size A n .u8) :
    Calls Try.prog 3 #[.agg #[.int .i64 a, .int .i64 b, .int .i64 d], .slice A n c] w fun e w' => e = .returned (.bool true) ∧ Below w.heap.size w w' := by
  by_cases hn : 3000 < n
  · exact walk_long a b d A n c w hn
  · cases hm : may a b d
    · exact walk_no a b d A n c w hn hm
    · obtain ⟨r, mc, mt, rfl, rfl, rfl⟩ := may_nat hm
      exact walk_yes r mc mt A n c w hn hm hI

set_option maxRecDepth 100000 in
theorem lifted (os : Os) (started : os.Started) (H : Type) (enc : TypeId × Value → H) :
    ReturnsInHanded {} Try.checked os 3 .any (Rows.autoPlaysSpec.pre6 enc Try.prog Try.f3 Rows.autoPlaysRow.domain false) (Rows.autoPlaysSpec.post enc Try.prog Try.f3 false true false false) := by
  refine returnsInHanded_of_change (C := Try.checked) own started (by kernel_rfl) Try.func3
    (ChangeSpec.witness6 (enc := enc) (C := Try.checked) false ⟨#[], #[.agg #[.int .i64 0, .int .i64 0, .int .i64 0], .slice none 0 0], []⟩ 8 (by kernel_rfl) (by kernel_rfl) (by kernel_rfl) (by kernel_rfl)) ?_
  intro W base args ds gs before hval0 hW hcnd _
  have hval : ∀ (j : Nat) t v, Try.f3.params[j]? = some t → args[j]? = some v → Value.okWide Try.prog W .any base t v := hval0
  have hW' := hW
  obtain ⟨p, q, hA0, hV, rfl, hfz, hnd⟩ := hW
  have hlt := hW'.lt
  have hA : DataW.TrodAll enc Try.prog W 0 (fun _ => true) true Try.f3.params.toList args.toList ds p := hA0
  rw [Try.params3] at hA hval
  obtain ⟨v0, vs0, d0, ds0, p0, q0, hargs, rfl, rfl, h0, r0⟩ := trodAll_cons hA
  obtain ⟨v1, vs1, d1, ds1, p1, q1, rfl, rfl, rfl, h1, r1⟩ := trodAll_cons r0
  obtain ⟨rfl, rfl, rfl⟩ := trodAll_nil r1
  obtain rfl : args = #[v0, v1] := by cases args; simp_all
  obtain ⟨rfl, rfl⟩ := trodVars_none hV
  obtain ⟨a0, b0, c0, rfl⟩ := int3_of Try.underlying23 (by kernel_rfl) (by kernel_rfl) Try.underlying3 Try.underlying3 Try.underlying3 (hval 0 23 v0 rfl rfl) h0
  obtain ⟨A1, n1, c1, rfl, m1, hI1⟩ := ints_of Try.underlying24 Try.underlying5 (by kernel_rfl) (hval 1 24 v1 rfl rfl) h1
  clear hA0 hval0
  exact (walk a0 b0 c0 A1 n1 c1 W m1 hI1).mono fun e W' ⟨he, hb⟩ => ⟨_, he, law_post (t := 4) laidOut (by kernel_rfl) rfl rfl Try.underlying4 ⟨rfl, rfl, rfl⟩ hW' hb⟩

theorem over : Rows.autoPlaysRow.holds Try.pinned (OpenSpec.ofChange Rows.autoPlaysSpec) :=
  OpenClaim.holds_of_wide 3 Try.f3 rfl rfl rfl rfl rfl rfl rfl ⟨rfl, rfl, rfl, rfl, rfl⟩ rfl rfl rfl rfl rfl (by kernel_rfl) Try.func3 (by kernel_rfl)
    (of_decide_eq_true (by kernel_rfl)) (by unfold Func.isWrapper; first | (rw [if_pos (by decide +kernel)]; kernel_rfl) | (rw [if_neg (by decide +kernel)]; exact ⟨rfl, rfl⟩))
    (fun os started H enc _ => lifted os started H enc)

theorem proved : Rows.AutoPlaysSaid :=
  over
#print axioms proved
end Go.Proofs.Ytkabjdejljdbiaa.AutoPlays
