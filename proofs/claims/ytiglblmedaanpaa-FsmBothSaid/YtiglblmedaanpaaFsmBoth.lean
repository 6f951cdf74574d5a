/- PROVED: 'halyardlaw12.FsmBoth' returns true for every row of events, and leaves them as they were. No condition. -/
import Derived.Test.YtiglblmedaanpaaFsmK
import Derived.Test.YtiglblmedaanpaaLaw
import Derived.Test.YtiglblmedaanpaaRows
namespace Go.Proofs.Ytiglblmedaanpaa.FsmBoth
open Go.ChangeShapes Go.WideShapes Go.ChangeAt Go.RowKit Go.Proofs.Ytiglblmedaanpaa.Oct Go.Proofs.Ytiglblmedaanpaa.Row Go.Proofs.Ytiglblmedaanpaa.Fsm Go.Proofs.Ytiglblmedaanpaa.Mem Go.Proofs.Ytiglblmedaanpaa.Law

set_option maxHeartbeats 4000000 in
set_option maxRecDepth 100000 in
theorem walk (A : Option Addr) (n c : Nat) (w : World) (_ : n ≤ maxLen) (hI : Ints w w.heap.size A n .u8) :
    Calls Try.prog 5 #[.slice A n c] w fun e w' => e = .returned (.bool true) ∧ Below w.heap.size w w' := by
  have HB0 := Lib.hid (Below.refl w.heap.size w)
  have HI := Lib.hid hI
  clear hI
  by_cases hbig : 2000 < n
  · have hbi : (2000 : Int) < n := by omega
    clear hbig
    go_enter Try.func5, Try.ntmps5
    go_wp2_with fail
    refine (alive_any _).mono ?_
    rintro x w1 ⟨rfl, hb⟩
    have HB1 := Lib.hid hb
    clear hb
    go_wp2
    go_ret
    exact ⟨rfl, HB1.out⟩
  · have hbi : (n : Int) ≤ 2000 := by omega
    have hbd : decide ((2000 : Int) < (n : Int)) = false := decide_eq_false (by omega)
    clear hbig
    go_enter Try.func5, Try.ntmps5
    go_wp2
    go_loopw [3, 4, 5, 6] (fun u tv cv i wr => ∃ (k s : Nat) (tt cc : Bool), k ≤ n ∧ s < 10 ∧ u = .int .u8 s ∧ tv = .bool tt ∧ cv = .bool cc ∧ i = .int .i64 k ∧ Hid (inv s tt cc = true ∧ Below w.heap.size w wr)) (fun _ _ _ i _ => n - (intOf i).toNat)
    case atStart => exact ⟨0, 0, false, false, Nat.zero_le _, by decide, rfl, rfl, rfl, rfl, rfl, HB0.out⟩
    case round =>
      obtain ⟨k, s, tt, cc, hk, hs, rfl, rfl, rfl, rfl, HF⟩ := hrel
      by_cases hlt : k < n
      · skip
        obtain ⟨ad, y, rfl, hyb, hc⟩ := event_at (HI.out.below HF.out.2) hlt
        obtain ⟨ev, hev, he1⟩ := ev_of y hyb
        have hy0 : (0 : Int) ≤ y := Int.natCast_nonneg y
        have hy1 : (y : Int) ≤ 255 := by omega
        have hs0 : (0 : Int) ≤ s := Int.natCast_nonneg s
        have hs1 : (s : Int) < 10 := by omega
        rcases next_cases s ev hs hev with ⟨_, HN⟩ | ⟨a, m, hx, HN⟩
        · go_wp2_with fail
          refine (HN.out _).mono ?_
          rintro x w1 ⟨rfl, hb⟩
          have HB1 : Hid (inv s tt cc = true ∧ Below w.heap.size w w1) := ⟨HF.out.1, HF.out.2.trans (hb.mono HF.out.2.size)⟩
          clear hb hc
          go_wp2
          go_roundw
          case rel => exact ⟨k + 1, s, tt, cc, by omega, hs, rfl, rfl, rfl, by go_num, HB1⟩
          case measure => simp [intOf]; omega
        · obtain ⟨f1, f2, f3, f4, f5⟩ := both_spec hev hs hx HF.out.1
          have C64 : Hid (∀ w, Calls Try.prog 16 #[.int .u16 a, .int .u16 64] w fun x w' => x = .returned (.bool (has a 64)) ∧ w = w') := fun w => has_any a 64 w f2 (by decide)
          have C128 : Hid (∀ w, Calls Try.prog 16 #[.int .u16 a, .int .u16 128] w fun x w' => x = .returned (.bool (has a 128)) ∧ w = w') := fun w => has_any a 128 w f2 (by decide)
          have C2 : Hid (∀ w, Calls Try.prog 16 #[.int .u16 a, .int .u16 2] w fun x w' => x = .returned (.bool (has a 2)) ∧ w = w') := fun w => has_any a 2 w f2 (by decide)
          have Hf1 := Lib.hid f1
          have hm0 : (0 : Int) ≤ m := Int.natCast_nonneg m
          have hm1 : (m : Int) < 10 := by omega
          have hev1 : (ev : Int) < 16 := by omega
          have hev0 : (0 : Int) ≤ ev := Int.natCast_nonneg ev
          have e1 : ((m : Int) == 9) = decide (m = 9) := int_beq m 9
          have e6 : ((ev : Int) == 6) = decide (ev = 6) := int_beq ev 6
          have e7 : ((ev : Int) == 7) = decide (ev = 7) := int_beq ev 7
          have e8 : ((ev : Int) == 8) = decide (ev = 8) := int_beq ev 8
          clear f1 f2 hx
          generalize decide (m = 9) = n9 at *
          generalize decide (ev = 6) = k6 at *
          generalize decide (ev = 7) = k7 at *
          generalize decide (ev = 8) = k8 at *
          generalize has a 64 = h64 at *
          generalize has a 128 = h128 at *
          generalize has a 2 = h2 at *
          cases k6 <;> cases k7 <;> cases k8 <;> cases h64 <;> cases h128 <;> cases h2 <;> cases n9
          all_goals first
            | (exact absurd f3 (by decide))
            | skip
          all_goals
            clear f3
            have HJ := Lib.hid f5
            clear f5
            simp only [sentF, cameF, Bool.not_true, Bool.not_false, Bool.true_or, Bool.false_or, Bool.true_and, Bool.false_and, Bool.and_true, Bool.and_false, Bool.or_true, Bool.or_false, cond_true, cond_false] at f4 HJ
            try (simp only [Bool.and_eq_true] at f4)
            try (obtain ⟨f4, f4b⟩ := f4)
            try (rw [f4] at HJ)
            try (rw [f4b] at HJ)
            go_wp2_with (first
              | (go_at_call 7; refine (HN.out _).mono ?_; rintro x w1 ⟨rfl, hb⟩; have HB1 := Lib.hid (HF.out.2.trans (hb.mono HF.out.2.size)); clear hb hc)
              | ((with_reducible refine (C64.out _).mono ?_); rintro x w2 ⟨rfl, rfl⟩)
              | ((with_reducible refine (C128.out _).mono ?_); rintro x w2 ⟨rfl, rfl⟩)
              | ((with_reducible refine (C2.out _).mono ?_); rintro x w2 ⟨rfl, rfl⟩))
          all_goals
            go_roundw
            case rel => exact ⟨k + 1, m, _, _, by omega, Hf1.out, rfl, rfl, rfl, by go_num, HJ.out, HB1.out⟩
            case measure => simp [intOf]; omega
      · obtain rfl : k = n := by omega
        go_wp2_with fail
        refine (alive_any _).mono ?_
        rintro x w8 ⟨rfl, hb⟩
        have HB8 := Lib.hid (HF.out.2.trans (hb.mono HF.out.2.size))
        clear hb
        go_wp2
        go_ret
        exact ⟨rfl, HB8.out⟩

set_option maxRecDepth 100000 in
theorem lifted (os : Os) (started : os.Started) (H : Type) (enc : TypeId × Value → H) :
    ReturnsInHanded {} Try.checked os 5 .any (Rows.fsmBothSpec.pre6 enc Try.prog Try.f5 Rows.fsmBothRow.domain false) (Rows.fsmBothSpec.post enc Try.prog Try.f5 false true false false) := by
  refine returnsInHanded_of_change (C := Try.checked) own started (by kernel_rfl) Try.func5
    (ChangeSpec.witness6 (enc := enc) (C := Try.checked) false ⟨#[], #[.slice none 0 0], []⟩ 8 (by kernel_rfl) (by kernel_rfl) (by kernel_rfl) (by kernel_rfl)) ?_
  intro W base args ds gs before hval0 hW hcnd _
  have hval : ∀ (j : Nat) t v, Try.f5.params[j]? = some t → args[j]? = some v → Value.okWide Try.prog W .any base t v := hval0
  have hW' := hW
  obtain ⟨p, q, hA0, hV, rfl, hfz, hnd⟩ := hW
  have hlt := hW'.lt
  have hA : DataW.TrodAll enc Try.prog W 0 (fun _ => true) true Try.f5.params.toList args.toList ds p := hA0
  rw [Try.params5] at hA hval
  obtain ⟨v0, vs0, d0, ds0, p0, q0, hargs, rfl, rfl, h0, r0⟩ := trodAll_cons hA
  obtain ⟨rfl, rfl, rfl⟩ := trodAll_nil r0
  obtain rfl : args = #[v0] := by cases args; simp_all
  obtain ⟨rfl, rfl⟩ := trodVars_none hV
  obtain ⟨A0, n0, c0, rfl, m0, hI0⟩ := ints_of Try.underlying33 Try.underlying5 (by kernel_rfl) (hval 0 33 v0 rfl rfl) h0
  clear hA0 hval0
  exact (walk A0 n0 c0 W m0 hI0).mono fun e W' ⟨he, hb⟩ => ⟨_, he, law_post (t := 4) laidOut (by kernel_rfl) rfl rfl Try.underlying4 ⟨rfl, rfl, rfl⟩ hW' hb⟩

theorem over : Rows.fsmBothRow.holds Try.pinned (OpenSpec.ofChange Rows.fsmBothSpec) :=
  OpenClaim.holds_of_wide 5 Try.f5 rfl rfl rfl rfl rfl rfl rfl ⟨rfl, rfl, rfl, rfl, rfl⟩ rfl rfl rfl rfl rfl (by kernel_rfl) Try.func5 (by kernel_rfl)
    (of_decide_eq_true (by kernel_rfl)) (by unfold Func.isWrapper; first | (rw [if_pos (by decide +kernel)]; kernel_rfl) | (rw [if_neg (by decide +kernel)]; exact ⟨rfl, rfl⟩))
    (fun os started H enc _ => lifted os started H enc)

theorem proved : Rows.FsmBothSaid :=
  over
#print axioms proved
end Go.Proofs.Ytiglblmedaanpaa.FsmBoth
