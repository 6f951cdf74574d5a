/- PROVED: 'halyardlaw12.FsmUp' returns true for every row of events, and leaves them as they were. No condition. -/
import Derived.Test.YtiglblmedaanpaaFsmJ
import Derived.Test.YtiglblmedaanpaaLaw
import Derived.Test.YtiglblmedaanpaaRows
namespace Go.Proofs.Ytiglblmedaanpaa.FsmUp
open Go.ChangeShapes Go.WideShapes Go.ChangeAt Go.RowKit Go.Proofs.Ytiglblmedaanpaa.Oct Go.Proofs.Ytiglblmedaanpaa.Row Go.Proofs.Ytiglblmedaanpaa.Fsm Go.Proofs.Ytiglblmedaanpaa.Mem Go.Proofs.Ytiglblmedaanpaa.Law

set_option maxHeartbeats 4000000 in
set_option maxRecDepth 100000 in
theorem walk (A : Option Addr) (n c : Nat) (w : World) (_ : n ≤ maxLen) (hI : Ints w w.heap.size A n .u8) :
    Calls Try.prog 4 #[.slice A n c] w fun e w' => e = .returned (.bool true) ∧ Below w.heap.size w w' := by
  have HB0 := Lib.hid (Below.refl w.heap.size w)
  have HI := Lib.hid hI
  clear hI
  by_cases hbig : 2000 < n
  · have hbi : (2000 : Int) < n := by omega
    clear hbig
    go_enter Try.func4, Try.ntmps4
    go_wp2_with fail
    refine (alive_any _).mono ?_
    rintro x w1 ⟨rfl, hb⟩
    have HB1 := Lib.hid hb
    clear hb
    go_wp2
    go_ret
    exact ⟨rfl, HB1.out⟩
  · have hbi : (n : Int) ≤ 2000 := by omega
    have hbd : decide ((2000 : Int) < (n : Int)) = false := decide_eq_false (by omega)
    clear hbig
    go_enter Try.func4, Try.ntmps4
    go_wp2
    go_loopw [3, 4] (fun u i wr => ∃ k s : Nat, k ≤ n ∧ s < 10 ∧ u = .int .u8 s ∧ i = .int .i64 k ∧ Hid (Below w.heap.size w wr)) (fun _ i _ => n - (intOf i).toNat)
    case atStart => exact ⟨0, 0, Nat.zero_le _, by decide, rfl, rfl, HB0⟩
    case round =>
      obtain ⟨k, s, hk, hs, rfl, rfl, HF⟩ := hrel
      by_cases hlt : k < n
      · skip
        obtain ⟨ad, y, rfl, hyb, hc⟩ := event_at (HI.out.below HF.out) hlt
        obtain ⟨ev, hev, he1⟩ := ev_of y hyb
        have hy0 : (0 : Int) ≤ y := Int.natCast_nonneg y
        have hy1 : (y : Int) ≤ 255 := by omega
        have hs0 : (0 : Int) ≤ s := Int.natCast_nonneg s
        have hs1 : (s : Int) < 10 := by omega
        rcases next_cases s ev hs hev with ⟨_, HN⟩ | ⟨a, m, hx, HN⟩
        · go_wp2_with fail
          refine (HN.out _).mono ?_
          rintro x w1 ⟨rfl, hb⟩
          have HB1 := Lib.hid (HF.out.trans (hb.mono HF.out.size))
          clear hb hc
          go_wp2
          go_roundw
          case rel => exact ⟨k + 1, s, by omega, hs, rfl, by go_num, HB1⟩
          case measure => simp [intOf]; omega
        · obtain ⟨f1, f2, f3, f4, f5, f6⟩ := up_spec hev hs hx
          have C1 : Hid (∀ w, Calls Try.prog 16 #[.int .u16 a, .int .u16 1] w fun x w' => x = .returned (.bool (has a 1)) ∧ w = w') := fun w => has_any a 1 w f2 (by decide)
          have C2 : Hid (∀ w, Calls Try.prog 16 #[.int .u16 a, .int .u16 2] w fun x w' => x = .returned (.bool (has a 2)) ∧ w = w') := fun w => has_any a 2 w f2 (by decide)
          have C4 : Hid (∀ w, Calls Try.prog 16 #[.int .u16 a, .int .u16 4] w fun x w' => x = .returned (.bool (has a 4)) ∧ w = w') := fun w => has_any a 4 w f2 (by decide)
          have C8 : Hid (∀ w, Calls Try.prog 16 #[.int .u16 a, .int .u16 8] w fun x w' => x = .returned (.bool (has a 8)) ∧ w = w') := fun w => has_any a 8 w f2 (by decide)
          have CT := Lib.hid (fun w => timed_any m w)
          rw [f3] at C1
          rw [f4] at C2
          have Hf1 := Lib.hid f1
          have hm0 : (0 : Int) ≤ m := Int.natCast_nonneg m
          have hm1 : (m : Int) < 10 := by omega
          have e1 : ((m : Int) == 9) = decide (m = 9) := int_beq m 9
          have e2 : ((m : Int) != 9) = !decide (m = 9) := int_bne m 9
          have e3 : ((s : Int) == 9) = decide (s = 9) := int_beq s 9
          have e4 : ((s : Int) != 9) = !decide (s = 9) := int_bne s 9
          have e5 : ((m : Int) != 1) = !decide (m = 1) := int_bne m 1
          clear f1 f2 f3 f4 hx
          generalize decide (m = 9) = b1 at *
          generalize decide (s = 9) = b2 at *
          generalize decide (m = 1) = b3 at *
          generalize has a 4 = b4 at *
          generalize has a 8 = b8 at *
          generalize timed m = b9 at *
          cases b1 <;> cases b2 <;> cases b4 <;> cases b8
          all_goals
            simp only [Bool.true_and, Bool.false_and, Bool.and_true, Bool.and_false, Bool.not_true, Bool.not_false] at f5 f6 C1 C2 e2 e4
            try (rw [f5] at e5)
            try (rw [f6] at CT)
            clear f5 f6
            go_wp2_with (first
              | (go_at_call 7; refine (HN.out _).mono ?_; rintro x w1 ⟨rfl, hb⟩; have HB1 := Lib.hid (HF.out.trans (hb.mono HF.out.size)); clear hb hc)
              | (go_at_call 13; refine (CT.out _).mono ?_; rintro x w2 ⟨rfl, rfl⟩)
              | ((with_reducible refine (C1.out _).mono ?_); rintro x w2 ⟨rfl, rfl⟩)
              | ((with_reducible refine (C2.out _).mono ?_); rintro x w2 ⟨rfl, rfl⟩)
              | ((with_reducible refine (C4.out _).mono ?_); rintro x w2 ⟨rfl, rfl⟩)
              | ((with_reducible refine (C8.out _).mono ?_); rintro x w2 ⟨rfl, rfl⟩))
          all_goals
            go_roundw
            case rel => exact ⟨k + 1, m, by omega, Hf1.out, rfl, by go_num, HB1⟩
            case measure => simp [intOf]; omega
      · obtain rfl : k = n := by omega
        go_wp2_with fail
        refine (alive_any _).mono ?_
        rintro x w8 ⟨rfl, hb⟩
        have HB8 := Lib.hid (HF.out.trans (hb.mono HF.out.size))
        clear hb
        go_wp2
        go_ret
        exact ⟨rfl, HB8.out⟩

set_option maxRecDepth 100000 in
theorem lifted (os : Os) (started : os.Started) (H : Type) (enc : TypeId × Value → H) :
    ReturnsInHanded {} Try.checked os 4 .any (Rows.fsmUpSpec.pre6 enc Try.prog Try.f4 Rows.fsmUpRow.domain false) (Rows.fsmUpSpec.post enc Try.prog Try.f4 false true false false) := by
  refine returnsInHanded_of_change (C := Try.checked) own started (by kernel_rfl) Try.func4
    (ChangeSpec.witness6 (enc := enc) (C := Try.checked) false ⟨#[], #[.slice none 0 0], []⟩ 8 (by kernel_rfl) (by kernel_rfl) (by kernel_rfl) (by kernel_rfl)) ?_
  intro W base args ds gs before hval0 hW hcnd _
  have hval : ∀ (j : Nat) t v, Try.f4.params[j]? = some t → args[j]? = some v → Value.okWide Try.prog W .any base t v := hval0
  have hW' := hW
  obtain ⟨p, q, hA0, hV, rfl, hfz, hnd⟩ := hW
  have hlt := hW'.lt
  have hA : DataW.TrodAll enc Try.prog W 0 (fun _ => true) true Try.f4.params.toList args.toList ds p := hA0
  rw [Try.params4] at hA hval
  obtain ⟨v0, vs0, d0, ds0, p0, q0, hargs, rfl, rfl, h0, r0⟩ := trodAll_cons hA
  obtain ⟨rfl, rfl, rfl⟩ := trodAll_nil r0
  obtain rfl : args = #[v0] := by cases args; simp_all
  obtain ⟨rfl, rfl⟩ := trodVars_none hV
  obtain ⟨A0, n0, c0, rfl, m0, hI0⟩ := ints_of Try.underlying33 Try.underlying5 (by kernel_rfl) (hval 0 33 v0 rfl rfl) h0
  clear hA0 hval0
  exact (walk A0 n0 c0 W m0 hI0).mono fun e W' ⟨he, hb⟩ => ⟨_, he, law_post (t := 4) laidOut (by kernel_rfl) rfl rfl Try.underlying4 ⟨rfl, rfl, rfl⟩ hW' hb⟩

theorem over : Rows.fsmUpRow.holds Try.pinned (OpenSpec.ofChange Rows.fsmUpSpec) :=
  OpenClaim.holds_of_wide 4 Try.f4 rfl rfl rfl rfl rfl rfl rfl ⟨rfl, rfl, rfl, rfl, rfl⟩ rfl rfl rfl rfl rfl (by kernel_rfl) Try.func4 (by kernel_rfl)
    (of_decide_eq_true (by kernel_rfl)) (by unfold Func.isWrapper; first | (rw [if_pos (by decide +kernel)]; kernel_rfl) | (rw [if_neg (by decide +kernel)]; exact ⟨rfl, rfl⟩))
    (fun os started H enc _ => lifted os started H enc)

theorem proved : Rows.FsmUpSaid :=
  over
#print axioms proved
end Go.Proofs.Ytiglblmedaanpaa.FsmUp
