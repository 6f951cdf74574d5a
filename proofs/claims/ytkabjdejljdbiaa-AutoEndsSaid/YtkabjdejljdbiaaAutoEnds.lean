/- PROVED: 'halyardlaw13.AutoEnds' returns true for every conf and every row of bytes, and leaves them as they were. No condition. -/
import Derived.Test.YtkabjdejljdbiaaAutK
import Derived.Test.YtkabjdejljdbiaaLaw
import Derived.Test.YtkabjdejljdbiaaInt3
import Derived.Test.YtkabjdejljdbiaaRows
namespace Go.Proofs.Ytkabjdejljdbiaa.AutoEnds
open Go.ChangeShapes Go.WideShapes Go.ChangeAt Go.RowKit Go.Proofs.Ytkabjdejljdbiaa.Oct Go.Proofs.Ytkabjdejljdbiaa.Row Go.Proofs.Ytkabjdejljdbiaa.Fsm Go.Proofs.Ytkabjdejljdbiaa.Mem Go.Proofs.Ytkabjdejljdbiaa.Law Go.Proofs.Ytkabjdejljdbiaa.Aut

set_option maxHeartbeats 8000000 in
set_option maxRecDepth 100000 in
theorem walk_long (a b d : Int) (A : Option Addr) (n c : Nat) (w : World) (hn : 3000 < n) :
    Calls Try.prog 4 #[.agg #[.int .i64 a, .int .i64 b, .int .i64 d], .slice A n c] w fun e w' => e = .returned (.bool true) ∧ Below w.heap.size w w' := by
  obtain ⟨W, hW, c0, c1, c2, HB⟩ := boxC w a b d
  have HL := Lib.hid (fun w => long_yes A n c w hn)
  clear hn
  go_enter Try.func4, Try.ntmps4
  go_wp2_with fail
  refine (HL.out _).mono ?_
  rintro o _ ⟨rfl, rfl⟩
  go_wp2_with fail
  refine (alive_any _).mono ?_
  rintro o w1 ⟨rfl, hb⟩
  have HE := Lib.hid (HB.out.trans (hb.mono HB.out.size))
  clear hb
  go_wp2
  go_ret
  exact ⟨rfl, HE.out⟩
set_option maxHeartbeats 8000000 in
set_option maxRecDepth 100000 in
theorem walk_no (a b d : Int) (A : Option Addr) (n c : Nat) (w : World) (hn : ¬ 3000 < n) (hm : may a b d = false) :
    Calls Try.prog 4 #[.agg #[.int .i64 a, .int .i64 b, .int .i64 d], .slice A n c] w fun e w' => e = .returned (.bool true) ∧ Below w.heap.size w w' := by
  obtain ⟨W, hW, c0, c1, c2, HB⟩ := boxC w a b d
  have HL := Lib.hid (fun w => long_no A n c w hn)
  have HN := Lib.hid (fun w => new_no a b d w hm)
  clear hn hm
  go_enter Try.func4, Try.ntmps4
  go_wp2_with fail
  refine (HL.out _).mono ?_
  rintro o _ ⟨rfl, rfl⟩
  go_wp2_with fail
  refine (HN.out _).mono ?_
  rintro o w1 ⟨rfl, hb⟩
  have H1 := Lib.hid (HB.out.trans (hb.mono HB.out.size))
  clear hb HN
  go_wp2_with fail
  refine (alive_any _).mono ?_
  rintro o w2 ⟨rfl, hb⟩
  have H2 := Lib.hid (H1.out.trans (hb.mono H1.out.size))
  clear hb
  go_wp2
  go_ret
  exact ⟨rfl, H2.out⟩
set_option maxHeartbeats 8000000 in
set_option maxRecDepth 100000 in
theorem walk_yes (r mc mt : Nat) (A : Option Addr) (n c : Nat) (w : World) (hn : ¬ 3000 < n) (hm : may r mc mt = true) (hI : Ints w w.heap.size A n .u8) :
    Calls Try.prog 4 #[.agg #[.int .i64 r, .int .i64 mc, .int .i64 mt], .slice A n c] w fun e w' => e = .returned (.bool true) ∧ Below w.heap.size w w' := by
  obtain ⟨W, hW, c0, c1, c2, HB⟩ := boxC w r mc mt
  have HS : Hid (w.heap.size < W.heap.size) := by
    show _ < _
    rw [← hW]
    simp
  have HI := Lib.hid hI
  have HV := Lib.hid (new_inv hm)
  have HL := Lib.hid (fun w => long_no A n c w hn)
  have HN := Lib.hid (fun w => new_ok r mc mt w hm)
  have hn1 : (n : Int) ≤ 3000 := by omega
  have HM := Lib.hid (most_of HV.out)
  clear hn hm hI
  go_enter Try.func4, Try.ntmps4
  go_wp2_with fail
  refine (HL.out _).mono ?_
  rintro o _ ⟨rfl, rfl⟩
  go_wp2_with fail
  refine (HN.out _).mono ?_
  rintro o w1 ⟨g, rfl, hg, ha, hb⟩
  have H1 : Hid (Al W w1 g ⟨r, mc, mt, 0, 0, 0⟩) := Al.new (Below.refl _ _) ha hg hb
  clear hg ha hb HN
  go_wp2_with fail
  go_loopw [7] (fun i wr => ∃ (k : Nat) (x : Au), k ≤ n ∧ i = .int .i64 k ∧ Hid (Al W wr g x ∧ Inv x ∧ Same ⟨r, mc, mt, 0, 0, 0⟩ x)) (fun i _ => n - (intOf i).toNat)
  case atStart => exact ⟨0, _, Nat.zero_le _, rfl, H1.out, HV.out, .refl _⟩
  case round =>
    obtain ⟨k, x, hk, rfl, HF⟩ := hrel
    by_cases hlt : k < n
    · obtain ⟨ad, y, rfl, hyb, hc⟩ := event_at (HI.out.below (HF.out.1.low HB.out)) hlt
      obtain ⟨ev, hev, he1⟩ : ∃ ev : Nat, ev < 17 ∧ (y : Int).tmod 17 = (ev : Int) := ⟨y % 17, Nat.mod_lt _ (by decide), rfl⟩
      have hy0 : (0 : Int) ≤ y := Int.natCast_nonneg y
      have hy1 : (y : Int) ≤ 255 := by omega
      have hk1 : (k : Int) < (n : Int) := by omega
      by_cases h16 : ev = 16
      · have hq : ((ev : Int) == 16) = true := by rw [h16]; rfl
        have HT := Lib.hid (tick_any x g wr HF.out.1.1 HF.out.2.1)
        clear h16
        go_wp2_with fail
        refine HT.out.mono ?_
        rintro o w2 ⟨rfl, ha, hm⟩
        have HG : Hid (Al W w2 g (tk x) ∧ Inv (tk x) ∧ Same ⟨r, mc, mt, 0, 0, 0⟩ (tk x)) := ⟨HF.out.1.moves hm ha, tk_inv HF.out.2.1, HF.out.2.2.trans (tk_same x)⟩
        clear ha hm hc HT HF
        go_wp2
        go_roundw
        case rel => exact ⟨k + 1, tk x, by omega, by go_num, HG⟩
        case measure => simp [intOf]; omega
      · have hq : ((ev : Int) == 16) = false := by rw [beq_eq_false_iff_ne]; omega
        have HT := Lib.hid (event_any x g ev wr HF.out.1.1 HF.out.2.1)
        clear h16
        go_wp2_with fail
        refine HT.out.mono ?_
        rintro o w2 ⟨rfl, ha, hm⟩
        have HG : Hid (Al W w2 g (evX x ev) ∧ Inv (evX x ev) ∧ Same ⟨r, mc, mt, 0, 0, 0⟩ (evX x ev)) := ⟨HF.out.1.moves hm ha, evX_inv HF.out.2.1 ev, HF.out.2.2.trans (evX_same x ev)⟩
        clear ha hm hc HT HF
        go_wp2
        go_roundw
        case rel => exact ⟨k + 1, evX x ev, by omega, by go_num, HG⟩
        case measure => simp [intOf]; omega
    · obtain rfl : k = n := by omega
      have d0 : wr.cell? ⟨w.heap.size, 0, none⟩ = some (.int .i64 r) := (HF.out.1.2.1.cell (p := ⟨w.heap.size, 0, none⟩) HS.out).trans c0
      have d1 : wr.cell? ⟨w.heap.size, 1, none⟩ = some (.int .i64 mc) := (HF.out.1.2.1.cell (p := ⟨w.heap.size, 1, none⟩) HS.out).trans c1
      have d2 : wr.cell? ⟨w.heap.size, 2, none⟩ = some (.int .i64 mt) := (HF.out.1.2.1.cell (p := ⟨w.heap.size, 2, none⟩) HS.out).trans c2
      clear c0 c1 c2
      obtain ⟨m1, m2, m3⟩ := HM.out
      by_cases hmm : mc < mt
      · have hmi : (mc : Int) < (mt : Int) := by omega
        have HX : Hid (∀ w', Aut w' g x → Calls Try.prog 18 #[.pointer (some ⟨g, 0, none⟩), .int .i64 ((r : Int) * ((mt : Int) + 2))] w' (TicksQ x g w')) := ticks_of HF.out.2.1 HF.out.2.2 (show max mc mt = mt by omega)
        have HC : Hid (x.c ≤ mt) := by have := HF.out.2.1.c; have := HF.out.2.2; simp only [Same] at this; show x.c ≤ mt; omega
        have b1 := m2 hmm
        have b0 : (0 : Int) ≤ (r : Int) * ((mt : Int) + 2) := Int.mul_nonneg (Int.natCast_nonneg r) (by omega)
        clear m2 m3 hmm
        generalize mt = M at *
        go_wp2_with fail
        refine (HX.out _ HF.out.1.1).mono ?_
        rintro o w2 ⟨q, s, y, rfl, hs, hy, _, hl, ha, hm⟩
        have H2 : Hid (Al W w2 g y) := HF.out.1.moves hm ha
        have HY := Lib.hid hy
        have HZ := Lib.hid hl
        have hs1 : (s : Int) ≤ (M : Int) := by have := HC.out; omega
        have hs2 : decide ((M : Int) < (s : Int)) = false := decide_eq_false (by omega)
        have hq1 : (0 : Int) ≤ (q : Int) := Int.natCast_nonneg q
        have hq2 : decide ((q : Int) < 0) = false := decide_eq_false (by omega)
        have HT : Hid (∀ w, Calls Try.prog 19 #[.int .u8 y.s] w fun o w' => o = .returned (.bool false) ∧ w = w') := timed_still hy hl
        clear hs hy hl ha hm HX HC HF b0 b1 d0 d1 d2
        go_wp2_with fail
        refine (state_any g _ _ H2.out.1).mono ?_
        rintro o _ ⟨rfl, rfl⟩
        go_wp2_with fail
        refine (HT.out _).mono ?_
        rintro o _ ⟨rfl, rfl⟩
        go_wp2_with fail
        refine (state_any g _ _ H2.out.1).mono ?_
        rintro o _ ⟨rfl, rfl⟩
        go_wp2_with fail
        refine (counter_any g _ _ H2.out.1).mono ?_
        rintro o _ ⟨rfl, rfl⟩
        go_wp2
        go_loopw [13] (fun i wr => ∃ j : Nat, j ≤ 3 ∧ i = .int .i64 j ∧ Hid (Al W wr g y)) (fun i _ => 3 - (intOf i).toNat)
        case atStart => exact ⟨0, Nat.zero_le _, rfl, H2⟩
        case round =>
          obtain ⟨j, hj, rfl, H3⟩ := hrel
          by_cases hj3 : j < 3
          · have hj1 : (j : Int) < 3 := by omega
            have hj2 := decide_eq_true hj1
            go_wp2_with fail
            refine (tk_at y 0 false H3.out HY.out (tkS_none HZ.out).2 (tkS_none HZ.out).1 (decide_eq_false (by rw [HZ.out]; decide))).mono ?_
            rintro o w3 ⟨rfl, h⟩
            have H4 := Lib.hid h
            clear h H3
            go_wp2
            go_roundw
            case rel => exact ⟨j + 1, by omega, by go_num, H4⟩
            case measure => simp [intOf]; omega
          · obtain rfl : j = 3 := by omega
            have HW : Hid (∀ w', Aut w' g y → Calls Try.prog 12 #[.pointer (some ⟨g, 0, none⟩)] w' fun e w'' => e = .returned (.int .i64 0) ∧ w' = w'') := left_still HZ.out
            go_wp2_with fail
            refine (state_any g _ _ H3.out.1).mono ?_
            rintro o _ ⟨rfl, rfl⟩
            go_wp2_with fail
            refine (counter_any g _ _ H3.out.1).mono ?_
            rintro o _ ⟨rfl, rfl⟩
            go_wp2_with fail
            refine (HW.out _ H3.out.1).mono ?_
            rintro o _ ⟨rfl, rfl⟩
            go_wp2_with fail
            refine (alive_any _).mono ?_
            rintro o w4 ⟨rfl, hb⟩
            have H4 := Lib.hid ((H3.out.callee hb).low HB.out)
            clear hb
            go_wp2
            go_ret
            exact ⟨rfl, H4.out⟩
      · have hmi : (mt : Int) ≤ (mc : Int) := by omega
        have HX : Hid (∀ w', Aut w' g x → Calls Try.prog 18 #[.pointer (some ⟨g, 0, none⟩), .int .i64 ((r : Int) * ((mc : Int) + 2))] w' (TicksQ x g w')) := ticks_of HF.out.2.1 HF.out.2.2 (show max mc mt = mc by omega)
        have HC : Hid (x.c ≤ mc) := by have := HF.out.2.1.c; have := HF.out.2.2; simp only [Same] at this; show x.c ≤ mc; omega
        have b1 := m3 hmm
        have b0 : (0 : Int) ≤ (r : Int) * ((mc : Int) + 2) := Int.mul_nonneg (Int.natCast_nonneg r) (by omega)
        clear m2 m3 hmm
        generalize mc = M at *
        go_wp2_with fail
        refine (HX.out _ HF.out.1.1).mono ?_
        rintro o w2 ⟨q, s, y, rfl, hs, hy, _, hl, ha, hm⟩
        have H2 : Hid (Al W w2 g y) := HF.out.1.moves hm ha
        have HY := Lib.hid hy
        have HZ := Lib.hid hl
        have hs1 : (s : Int) ≤ (M : Int) := by have := HC.out; omega
        have hs2 : decide ((M : Int) < (s : Int)) = false := decide_eq_false (by omega)
        have hq1 : (0 : Int) ≤ (q : Int) := Int.natCast_nonneg q
        have hq2 : decide ((q : Int) < 0) = false := decide_eq_false (by omega)
        have HT : Hid (∀ w, Calls Try.prog 19 #[.int .u8 y.s] w fun o w' => o = .returned (.bool false) ∧ w = w') := timed_still hy hl
        clear hs hy hl ha hm HX HC HF b0 b1 d0 d1 d2
        go_wp2_with fail
        refine (state_any g _ _ H2.out.1).mono ?_
        rintro o _ ⟨rfl, rfl⟩
        go_wp2_with fail
        refine (HT.out _).mono ?_
        rintro o _ ⟨rfl, rfl⟩
        go_wp2_with fail
        refine (state_any g _ _ H2.out.1).mono ?_
        rintro o _ ⟨rfl, rfl⟩
        go_wp2_with fail
        refine (counter_any g _ _ H2.out.1).mono ?_
        rintro o _ ⟨rfl, rfl⟩
        go_wp2
        go_loopw [13] (fun i wr => ∃ j : Nat, j ≤ 3 ∧ i = .int .i64 j ∧ Hid (Al W wr g y)) (fun i _ => 3 - (intOf i).toNat)
        case atStart => exact ⟨0, Nat.zero_le _, rfl, H2⟩
        case round =>
          obtain ⟨j, hj, rfl, H3⟩ := hrel
          by_cases hj3 : j < 3
          · have hj1 : (j : Int) < 3 := by omega
            have hj2 := decide_eq_true hj1
            go_wp2_with fail
            refine (tk_at y 0 false H3.out HY.out (tkS_none HZ.out).2 (tkS_none HZ.out).1 (decide_eq_false (by rw [HZ.out]; decide))).mono ?_
            rintro o w3 ⟨rfl, h⟩
            have H4 := Lib.hid h
            clear h H3
            go_wp2
            go_roundw
            case rel => exact ⟨j + 1, by omega, by go_num, H4⟩
            case measure => simp [intOf]; omega
          · obtain rfl : j = 3 := by omega
            have HW : Hid (∀ w', Aut w' g y → Calls Try.prog 12 #[.pointer (some ⟨g, 0, none⟩)] w' fun e w'' => e = .returned (.int .i64 0) ∧ w' = w'') := left_still HZ.out
            go_wp2_with fail
            refine (state_any g _ _ H3.out.1).mono ?_
            rintro o _ ⟨rfl, rfl⟩
            go_wp2_with fail
            refine (counter_any g _ _ H3.out.1).mono ?_
            rintro o _ ⟨rfl, rfl⟩
            go_wp2_with fail
            refine (HW.out _ H3.out.1).mono ?_
            rintro o _ ⟨rfl, rfl⟩
            go_wp2_with fail
            refine (alive_any _).mono ?_
            rintro o w4 ⟨rfl, hb⟩
            have H4 := Lib.hid ((H3.out.callee hb).low HB.out)
            clear hb
            go_wp2
            go_ret
            exact ⟨rfl, H4.out⟩
theorem walk (a b d : Int) (A : Option Addr) (n c : Nat) (w : World) (_ : n ≤ maxLen) (hI : Ints w w.heap.size A n .u8) :
    Calls Try.prog 4 #[.agg #[.int .i64 a, .int .i64 b, .int .i64 d], .slice A n c] w fun e w' => e = .returned (.bool true) ∧ Below w.heap.size w w' := by
  by_cases hn : 3000 < n
  · exact walk_long a b d A n c w hn
  · cases hm : may a b d
    · exact walk_no a b d A n c w hn hm
    · obtain ⟨r, mc, mt, rfl, rfl, rfl⟩ := may_nat hm
      exact walk_yes r mc mt A n c w hn hm hI

set_option maxRecDepth 100000 in
theorem lifted (os : Os) (started : os.Started) (H : Type) (enc : TypeId × Value → H) :
    ReturnsInHanded {} Try.checked os 4 .any (Rows.autoEndsSpec.pre6 enc Try.prog Try.f4 Rows.autoEndsRow.domain false) (Rows.autoEndsSpec.post enc Try.prog Try.f4 false true false false) := by
  refine returnsInHanded_of_change (C := Try.checked) own started (by kernel_rfl) Try.func4
    (ChangeSpec.witness6 (enc := enc) (C := Try.checked) false ⟨#[], #[.agg #[.int .i64 0, .int .i64 0, .int .i64 0], .slice none 0 0], []⟩ 8 (by kernel_rfl) (by kernel_rfl) (by kernel_rfl) (by kernel_rfl)) ?_
  intro W base args ds gs before hval0 hW hcnd _
  have hval : ∀ (j : Nat) t v, Try.f4.params[j]? = some t → args[j]? = some v → Value.okWide Try.prog W .any base t v := hval0
  have hW' := hW
  obtain ⟨p, q, hA0, hV, rfl, hfz, hnd⟩ := hW
  have hlt := hW'.lt
  have hA : DataW.TrodAll enc Try.prog W 0 (fun _ => true) true Try.f4.params.toList args.toList ds p := hA0
  rw [Try.params4] at hA hval
  obtain ⟨v0, vs0, d0, ds0, p0, q0, hargs, rfl, rfl, h0, r0⟩ := trodAll_cons hA
  obtain ⟨v1, vs1, d1, ds1, p1, q1, rfl, rfl, rfl, h1, r1⟩ := trodAll_cons r0
  obtain ⟨rfl, rfl, rfl⟩ := trodAll_nil r1
  obtain rfl : args = #[v0, v1] := by cases args; simp_all
  obtain ⟨rfl, rfl⟩ := trodVars_none hV
  obtain ⟨a0, b0, c0, rfl⟩ := int3_of Try.underlying23 (by kernel_rfl) (by kernel_rfl) Try.underlying3 Try.underlying3 Try.underlying3 (hval 0 23 v0 rfl rfl) h0
  obtain ⟨A1, n1, c1, rfl, m1, hI1⟩ := ints_of Try.underlying24 Try.underlying5 (by kernel_rfl) (hval 1 24 v1 rfl rfl) h1
  clear hA0 hval0
  exact (walk a0 b0 c0 A1 n1 c1 W m1 hI1).mono fun e W' ⟨he, hb⟩ => ⟨_, he, law_post (t := 4) laidOut (by kernel_rfl) rfl rfl Try.underlying4 ⟨rfl, rfl, rfl⟩ hW' hb⟩

theorem over : Rows.autoEndsRow.holds Try.pinned (OpenSpec.ofChange Rows.autoEndsSpec) :=
  OpenClaim.holds_of_wide 4 Try.f4 rfl rfl rfl rfl rfl rfl rfl ⟨rfl, rfl, rfl, rfl, rfl⟩ rfl rfl rfl rfl rfl (by kernel_rfl) Try.func4 (by kernel_rfl)
    (of_decide_eq_true (by kernel_rfl)) (by unfold Func.isWrapper; first | (rw [if_pos (by decide +kernel)]; kernel_rfl) | (rw [if_neg (by decide +kernel)]; exact ⟨rfl, rfl⟩))
    (fun os started H enc _ => lifted os started H enc)

theorem proved : Rows.AutoEndsSaid :=
  over
#print axioms proved
end Go.Proofs.Ytkabjdejljdbiaa.AutoEnds
