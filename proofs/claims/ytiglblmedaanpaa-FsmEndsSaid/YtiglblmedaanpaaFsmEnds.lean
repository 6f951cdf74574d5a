/- PROVED: 'halyardlaw12.FsmEnds' returns true for every row of events and every number, and leaves them as they were. No condition. -/
import Derived.Test.YtiglblmedaanpaaFsmL
import Derived.Test.YtiglblmedaanpaaLaw
import Derived.Test.YtiglblmedaanpaaRows
namespace Go.Proofs.Ytiglblmedaanpaa.FsmEnds
open Go.ChangeShapes Go.WideShapes Go.ChangeAt Go.RowKit Go.Proofs.Ytiglblmedaanpaa.Oct Go.Proofs.Ytiglblmedaanpaa.Row Go.Proofs.Ytiglblmedaanpaa.Fsm Go.Proofs.Ytiglblmedaanpaa.Mem Go.Proofs.Ytiglblmedaanpaa.Law

set_option maxHeartbeats 4000000 in
set_option maxRecDepth 100000 in
theorem walk (A : Option Addr) (n c q : Nat) (w : World) (_ : n ≤ maxLen) (hq : q < 256) (hI : Ints w w.heap.size A n .u8) :
    Calls Try.prog 6 #[.slice A n c, .int .u8 q] w fun e w' => e = .returned (.bool true) ∧ Below w.heap.size w w' := by
  have hq0 : (0 : Int) ≤ q := Int.natCast_nonneg q
  have hq1 : (q : Int) < 256 := by omega
  have HB0 := Lib.hid (Below.refl w.heap.size w)
  have HI := Lib.hid hI
  clear hI
  by_cases hbig : 2000 < n
  · have hbi : (2000 : Int) < n := by omega
    clear hbig
    go_enter Try.func6, Try.ntmps6
    go_wp2_with fail
    refine (alive_any _).mono ?_
    rintro x w1 ⟨rfl, hb⟩
    have HB1 := Lib.hid hb
    clear hb
    go_wp2
    go_ret
    exact ⟨rfl, HB1.out⟩
  · have hbi : (n : Int) ≤ 2000 := by omega
    have hbd : decide ((2000 : Int) < (n : Int)) = false := decide_eq_false (by omega)
    clear hbig
    go_enter Try.func6, Try.ntmps6
    go_wp2
    go_loopw [5, 6] (fun u i wr => ∃ k s : Nat, k ≤ n ∧ s < 10 ∧ u = .int .u8 s ∧ i = .int .i64 k ∧ Hid (Below w.heap.size w wr)) (fun _ i _ => n - (intOf i).toNat)
    case atStart => exact ⟨0, 0, Nat.zero_le _, by decide, rfl, rfl, HB0⟩
    case round =>
      obtain ⟨k, s, hk, hs, rfl, rfl, HF⟩ := hrel
      by_cases hlt : k < n
      · skip
        obtain ⟨ad, y, rfl, hyb, hc⟩ := event_at (HI.out.below HF.out) hlt
        obtain ⟨ev, hev, he1⟩ := ev_of y hyb
        have hy0 : (0 : Int) ≤ y := Int.natCast_nonneg y
        have hy1 : (y : Int) ≤ 255 := by omega
        have hs0 : (0 : Int) ≤ s := Int.natCast_nonneg s
        have hs1 : (s : Int) < 10 := by omega
        rcases next_cases s ev hs hev with ⟨_, HN⟩ | ⟨a, m, hx, HN⟩
        · go_wp2_with fail
          refine (HN.out _).mono ?_
          rintro x w1 ⟨rfl, hb⟩
          have HB1 := Lib.hid (HF.out.trans (hb.mono HF.out.size))
          clear hb hc
          go_wp2
          go_roundw
          case rel => exact ⟨k + 1, s, by omega, hs, rfl, by go_num, HB1⟩
          case measure => simp [intOf]; omega
        · have Hf1 := Lib.hid (up_spec hev hs hx).1
          clear hx
          go_wp2_with fail
          refine (HN.out _).mono ?_
          rintro x w1 ⟨rfl, hb⟩
          have HB1 := Lib.hid (HF.out.trans (hb.mono HF.out.size))
          clear hb hc
          go_wp2
          go_roundw
          case rel => exact ⟨k + 1, m, by omega, Hf1.out, rfl, by go_num, HB1⟩
          case measure => simp [intOf]; omega
      · obtain rfl : k = n := by omega
        have HB0 := HF
        obtain ⟨a, m, hx, hm⟩ := close_cases s hs
        have HN := Lib.hid (fun w => next_is s 3 a m hs (by decide) hx w)
        clear hx
        rcases hm with rfl | rfl | rfl
        · skip
          go_wp2_with fail
          refine (HN.out _).mono ?_
          rintro x w1 ⟨rfl, hb⟩
          have HB1 := Lib.hid (HB0.out.trans (hb.mono HB0.out.size))
          clear hb
          go_wp2_with fail
          refine (down_is _).mono ?_
          rintro x w2 ⟨rfl, hb⟩
          have HB2 := Lib.hid (HB1.out.trans (hb.mono HB1.out.size))
          clear hb
          go_wp2_with fail
          refine (alive_any _).mono ?_
          rintro x w3 ⟨rfl, hb⟩
          have HB3 := Lib.hid (HB2.out.trans (hb.mono HB2.out.size))
          clear hb
          go_wp2
          go_ret
          exact ⟨rfl, HB3.out⟩
        · skip
          go_wp2_with fail
          refine (HN.out _).mono ?_
          rintro x w1 ⟨rfl, hb⟩
          have HB1 := Lib.hid (HB0.out.trans (hb.mono HB0.out.size))
          clear hb
          go_wp2
          go_loopw [16] (fun i wr => i = .int .i64 0 ∧ wr = w1) (fun _ _ => 0)
          case atStart => exact ⟨rfl, rfl⟩
          case round =>
            obtain ⟨rfl, rfl⟩ := hrel
            by_cases h0 : q = 0
            · have h00 : ¬ (0 : Int) < (q : Int) := by omega
              have h01 : decide ((0 : Int) < (q : Int)) = false := decide_eq_false h00
              clear h0
              go_wp2_with fail
              refine (timed_2 _).mono ?_
              rintro x w9 ⟨rfl, rfl⟩
              go_wp2_with fail
              refine (open_is _).mono ?_
              rintro x w2 ⟨rfl, hb⟩
              have HB2 := Lib.hid (HB1.out.trans (hb.mono HB1.out.size))
              clear hb
              go_wp2_with fail
              refine (has_64 _).mono ?_
              rintro x w9 ⟨rfl, rfl⟩
              go_wp2_with fail
              refine (alive_any _).mono ?_
              rintro x w3 ⟨rfl, hb⟩
              have HB3 := Lib.hid (HB2.out.trans (hb.mono HB2.out.size))
              clear hb
              go_wp2
              go_ret
              exact ⟨rfl, HB3.out⟩
            · have h00 : (0 : Int) < (q : Int) := by omega
              have h01 : decide ((0 : Int) < (q : Int)) = true := decide_eq_true h00
              clear h0
              go_wp2_with fail
              refine (timed_2 _).mono ?_
              rintro x w9 ⟨rfl, rfl⟩
              go_wp2_with fail
              refine (timed_2 _).mono ?_
              rintro x w9 ⟨rfl, rfl⟩
              go_wp2_with fail
              refine (open_is _).mono ?_
              rintro x w2 ⟨rfl, hb⟩
              have HB2 := Lib.hid (HB1.out.trans (hb.mono HB1.out.size))
              clear hb
              go_wp2_with fail
              refine (has_64 _).mono ?_
              rintro x w9 ⟨rfl, rfl⟩
              go_wp2_with fail
              refine (alive_any _).mono ?_
              rintro x w3 ⟨rfl, hb⟩
              have HB3 := Lib.hid (HB2.out.trans (hb.mono HB2.out.size))
              clear hb
              go_wp2
              go_ret
              exact ⟨rfl, HB3.out⟩
        · skip
          go_wp2_with fail
          refine (HN.out _).mono ?_
          rintro x w1 ⟨rfl, hb⟩
          have HB1 := Lib.hid (HB0.out.trans (hb.mono HB0.out.size))
          clear hb
          go_wp2
          go_loopw [16] (fun i wr => ∃ j : Nat, j ≤ q ∧ i = .int .i64 j ∧ Hid (Below w.heap.size w wr)) (fun i _ => q - (intOf i).toNat)
          case atStart => exact ⟨0, Nat.zero_le _, rfl, HB1⟩
          case round =>
            obtain ⟨j, hj, rfl, HF2⟩ := hrel
            have HB1 := HF2
            by_cases hlt2 : j < q
            · have h00 : (j : Int) < (q : Int) := by omega
              have h01 : decide ((j : Int) < (q : Int)) = true := decide_eq_true h00
              go_wp2_with fail
              refine (timed_4 _).mono ?_
              rintro x w9 ⟨rfl, rfl⟩
              go_wp2_with fail
              refine (out_is _).mono ?_
              rintro x w2 ⟨rfl, hb⟩
              have HB2 := Lib.hid (HB1.out.trans (hb.mono HB1.out.size))
              clear hb
              go_wp2_with fail
              refine (has_512 _).mono ?_
              rintro x w9 ⟨rfl, rfl⟩
              go_wp2
              go_roundw
              case rel => exact ⟨j + 1, by omega, by go_num, HB2⟩
              case measure => simp [intOf]; omega
            · have h00 : ¬ (j : Int) < (q : Int) := by omega
              have h01 : decide ((j : Int) < (q : Int)) = false := decide_eq_false h00
              clear hlt2
              go_wp2_with fail
              refine (timed_4 _).mono ?_
              rintro x w9 ⟨rfl, rfl⟩
              go_wp2_with fail
              refine (last_is _).mono ?_
              rintro x w2 ⟨rfl, hb⟩
              have HB2 := Lib.hid (HB1.out.trans (hb.mono HB1.out.size))
              clear hb
              go_wp2_with fail
              refine (has_8 _).mono ?_
              rintro x w9 ⟨rfl, rfl⟩
              go_wp2_with fail
              refine (open_is _).mono ?_
              rintro x w3 ⟨rfl, hb⟩
              have HB3 := Lib.hid (HB2.out.trans (hb.mono HB2.out.size))
              clear hb
              go_wp2_with fail
              refine (has_64 _).mono ?_
              rintro x w9 ⟨rfl, rfl⟩
              go_wp2_with fail
              refine (alive_any _).mono ?_
              rintro x w4 ⟨rfl, hb⟩
              have HB4 := Lib.hid (HB3.out.trans (hb.mono HB3.out.size))
              clear hb
              go_wp2
              go_ret
              exact ⟨rfl, HB4.out⟩


set_option maxRecDepth 100000 in
theorem lifted (os : Os) (started : os.Started) (H : Type) (enc : TypeId × Value → H) :
    ReturnsInHanded {} Try.checked os 6 .any (Rows.fsmEndsSpec.pre6 enc Try.prog Try.f6 Rows.fsmEndsRow.domain false) (Rows.fsmEndsSpec.post enc Try.prog Try.f6 false true false false) := by
  refine returnsInHanded_of_change (C := Try.checked) own started (by kernel_rfl) Try.func6
    (ChangeSpec.witness6 (enc := enc) (C := Try.checked) false ⟨#[], #[.slice none 0 0, .int .u8 0], []⟩ 8 (by kernel_rfl) (by kernel_rfl) (by kernel_rfl) (by kernel_rfl)) ?_
  intro W base args ds gs before hval0 hW hcnd _
  have hval : ∀ (j : Nat) t v, Try.f6.params[j]? = some t → args[j]? = some v → Value.okWide Try.prog W .any base t v := hval0
  have hW' := hW
  obtain ⟨p, q, hA0, hV, rfl, hfz, hnd⟩ := hW
  have hlt := hW'.lt
  have hA : DataW.TrodAll enc Try.prog W 0 (fun _ => true) true Try.f6.params.toList args.toList ds p := hA0
  rw [Try.params6] at hA hval
  obtain ⟨v0, vs0, d0, ds0, p0, q0, hargs, rfl, rfl, h0, r0⟩ := trodAll_cons hA
  obtain ⟨v1, vs1, d1, ds1, p1, q1, rfl, rfl, rfl, h1, r1⟩ := trodAll_cons r0
  obtain ⟨rfl, rfl, rfl⟩ := trodAll_nil r1
  obtain rfl : args = #[v0, v1] := by cases args; simp_all
  obtain ⟨rfl, rfl⟩ := trodVars_none hV
  obtain ⟨A0, n0, c0, rfl, m0, hI0⟩ := ints_of Try.underlying33 Try.underlying5 (by kernel_rfl) (hval 0 33 v0 rfl rfl) h0
  obtain ⟨z1, rfl, rfl, rfl, w1⟩ := open_int Try.underlying5 (hval 1 5 v1 rfl rfl) h1
  obtain ⟨a1, rfl⟩ : ∃ n : Nat, z1 = n := ⟨z1.toNat, by have := bounds_u8 w1; omega⟩
  have b1 := bounds_u8 w1
  clear hA0 hval0
  exact (walk A0 n0 c0 a1 W m0 (by omega) hI0).mono fun e W' ⟨he, hb⟩ => ⟨_, he, law_post (t := 4) laidOut (by kernel_rfl) rfl rfl Try.underlying4 ⟨rfl, rfl, rfl⟩ hW' hb⟩

theorem over : Rows.fsmEndsRow.holds Try.pinned (OpenSpec.ofChange Rows.fsmEndsSpec) :=
  OpenClaim.holds_of_wide 6 Try.f6 rfl rfl rfl rfl rfl rfl rfl ⟨rfl, rfl, rfl, rfl, rfl⟩ rfl rfl rfl rfl rfl (by kernel_rfl) Try.func6 (by kernel_rfl)
    (of_decide_eq_true (by kernel_rfl)) (by unfold Func.isWrapper; first | (rw [if_pos (by decide +kernel)]; kernel_rfl) | (rw [if_neg (by decide +kernel)]; exact ⟨rfl, rfl⟩))
    (fun os started H enc _ => lifted os started H enc)

theorem proved : Rows.FsmEndsSaid :=
  over
#print axioms proved
end Go.Proofs.Ytiglblmedaanpaa.FsmEnds
