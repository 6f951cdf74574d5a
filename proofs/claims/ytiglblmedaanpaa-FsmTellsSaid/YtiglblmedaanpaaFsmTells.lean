/- PROVED: 'halyardlaw12.FsmTells' returns true for every state, every event and every bits, and leaves them as they were. No condition. -/
import Derived.Test.YtiglblmedaanpaaFsmJ
import Derived.Test.YtiglblmedaanpaaLaw
import Derived.Test.YtiglblmedaanpaaRows
namespace Go.Proofs.Ytiglblmedaanpaa.FsmTells
open Go.ChangeShapes Go.WideShapes Go.ChangeAt Go.RowKit Go.Proofs.Ytiglblmedaanpaa.Oct Go.Proofs.Ytiglblmedaanpaa.Row Go.Proofs.Ytiglblmedaanpaa.Fsm Go.Proofs.Ytiglblmedaanpaa.Mem Go.Proofs.Ytiglblmedaanpaa.Law

set_option maxHeartbeats 4000000 in
set_option maxRecDepth 100000 in
theorem walk (s e b : Nat) (h0 : s < 256) (h2 : b < 65536) (w : World) :
    Calls Try.prog 3 #[.int .u8 s, .int .u8 e, .int .u16 b] w fun e w' => e = .returned (.bool true) ∧ Below w.heap.size w w' := by
  obtain ⟨A, N, E, N1, N2⟩ := next_same s e
  obtain ⟨T, Q, S1, S2⟩ := state_same s h0
  have HA1 := Lib.hid (fun w => actions_any b w h2)
  have HA2 := Lib.hid (fun w => ractions_any b w h2)
  have HT1 := Lib.hid (fun w => timed_any s w)
  have HT2 := Lib.hid (fun w => rtimed_any s w)
  generalize timed s = Z at *
  have HL := Lib.hid (bitsTo_length b 13)
  generalize bitsTo b 13 = l at *
  obtain ⟨m, hm⟩ : ∃ m, l.length = m := ⟨_, rfl⟩
  have Hm := Lib.hid hm
  have hm1 : m ≤ 13 := by rw [← hm]; exact HL.out
  clear hm HL h0 h2
  have hq := beq_self T
  have HB0 := Lib.hid (Below.refl w.heap.size w)
  go_enter Try.func3, Try.ntmps3
  go_wp2_with fail
  refine (N1.out _).mono ?_
  rintro x w1 ⟨rfl, hb⟩
  have HB1 := Lib.hid (HB0.out.trans (hb.mono HB0.out.size))
  clear hb
  go_wp2_with fail
  refine (N2.out _).mono ?_
  rintro x w2 ⟨rfl, hb⟩
  have HB2 := Lib.hid (HB1.out.trans (hb.mono HB1.out.size))
  clear hb
  go_wp2_with fail
  refine (S1.out _).mono ?_
  rintro x w3 ⟨rfl, hb⟩
  have HB3 := Lib.hid (HB2.out.trans (hb.mono HB2.out.size))
  clear hb
  go_wp2_with fail
  refine (S2.out _).mono ?_
  rintro x w4 ⟨rfl, hb⟩
  have HB4 := Lib.hid (HB3.out.trans (hb.mono HB3.out.size))
  clear hb
  go_wp2_with fail
  refine (HA1.out _).mono ?_
  rintro x w5 ⟨v1, rfl, hown1, hb⟩
  have HB5 := Lib.hid (HB4.out.trans (hb.mono HB4.out.size))
  have HN1 := Lib.hid (nums_at hown1)
  clear hb hown1
  go_wp2_with fail
  refine (HA2.out _).mono ?_
  rintro x w6 ⟨v2, rfl, hown2, hb⟩
  have HB6 := Lib.hid (HB5.out.trans (hb.mono HB5.out.size))
  have HN1b := Lib.hid (HN1.out.callee hb)
  have HN2 := Lib.hid (nums_at hown2)
  clear hb hown2
  obtain ⟨A1, c1, rfl, hc1⟩ := HN1b.out
  obtain ⟨A2, c2, rfl, hc2⟩ := HN2.out
  have HC1 := Lib.hid hc1
  have HC2 := Lib.hid hc2
  clear hc1 hc2 HN1 HN1b HN2
  rw [Hm.out]
  go_wp2_with fail
  refine (HT1.out _).mono ?_
  rintro x w7 ⟨rfl, rfl⟩
  go_wp2_with fail
  refine (HT2.out _).mono ?_
  rintro x w7 ⟨rfl, rfl⟩
  go_wp2
  go_loopw [19] (fun i wr => ∃ k q : Nat, k ≤ m ∧ i = .int .i64 k ∧ wr = w6.drewN q) (fun i _ => m - (intOf i).toNat)
  case atStart => exact ⟨0, 0, Nat.zero_le _, rfl, rfl⟩
  case round =>
    obtain ⟨k, q, hk, rfl, rfl⟩ := hrel
    by_cases hlt : k < m
    · have hkl : k < l.length := by rw [Hm.out]; exact hlt
      obtain ⟨g1, rfl, d1⟩ := HC1.out k l[k] (List.getElem?_eq_getElem hkl)
      obtain ⟨g2, rfl, d2⟩ := HC2.out k l[k] (List.getElem?_eq_getElem hkl)
      generalize l[k] = y at *
      go_wp2
      go_quiet (fail)
      go_wp2
      go_roundw
      case rel => exact ⟨k + 1, q + nq, by omega, by go_num, rfl⟩
      case measure => simp [intOf]; omega
    · obtain rfl : k = m := by omega
      go_wp2_with fail
      refine (alive_any _).mono ?_
      rintro x w8 ⟨rfl, hb⟩
      have HB8 := Lib.hid ((HB6.out.drewN' q).trans (hb.mono HB6.out.size))
      clear hb
      go_wp2
      go_ret
      exact ⟨rfl, HB8.out⟩

set_option maxRecDepth 100000 in
theorem lifted (os : Os) (started : os.Started) (H : Type) (enc : TypeId × Value → H) :
    ReturnsInHanded {} Try.checked os 3 .any (Rows.fsmTellsSpec.pre6 enc Try.prog Try.f3 Rows.fsmTellsRow.domain false) (Rows.fsmTellsSpec.post enc Try.prog Try.f3 false true false false) := by
  refine returnsInHanded_of_change (C := Try.checked) own started (by kernel_rfl) Try.func3
    (ChangeSpec.witness6 (enc := enc) (C := Try.checked) false ⟨#[], #[.int .u8 0, .int .u8 0, .int .u16 0], []⟩ 8 (by kernel_rfl) (by kernel_rfl) (by kernel_rfl) (by kernel_rfl)) ?_
  intro W base args ds gs before hval0 hW hcnd _
  have hval : ∀ (j : Nat) t v, Try.f3.params[j]? = some t → args[j]? = some v → Value.okWide Try.prog W .any base t v := hval0
  have hW' := hW
  obtain ⟨p, q, hA0, hV, rfl, hfz, hnd⟩ := hW
  have hlt := hW'.lt
  have hA : DataW.TrodAll enc Try.prog W 0 (fun _ => true) true Try.f3.params.toList args.toList ds p := hA0
  rw [Try.params3] at hA hval
  obtain ⟨v0, vs0, d0, ds0, p0, q0, hargs, rfl, rfl, h0, r0⟩ := trodAll_cons hA
  obtain ⟨v1, vs1, d1, ds1, p1, q1, rfl, rfl, rfl, h1, r1⟩ := trodAll_cons r0
  obtain ⟨v2, vs2, d2, ds2, p2, q2, rfl, rfl, rfl, h2, r2⟩ := trodAll_cons r1
  obtain ⟨rfl, rfl, rfl⟩ := trodAll_nil r2
  obtain rfl : args = #[v0, v1, v2] := by cases args; simp_all
  obtain ⟨rfl, rfl⟩ := trodVars_none hV
  obtain ⟨z0, rfl, rfl, rfl, w0⟩ := open_int Try.underlying5 (hval 0 5 v0 rfl rfl) h0
  obtain ⟨a0, rfl⟩ : ∃ n : Nat, z0 = n := ⟨z0.toNat, by have := bounds_u8 w0; omega⟩
  have b0 := bounds_u8 w0
  obtain ⟨z1, rfl, rfl, rfl, w1⟩ := open_int Try.underlying5 (hval 1 5 v1 rfl rfl) h1
  obtain ⟨a1, rfl⟩ : ∃ n : Nat, z1 = n := ⟨z1.toNat, by have := bounds_u8 w1; omega⟩
  have b1 := bounds_u8 w1
  obtain ⟨z2, rfl, rfl, rfl, w2⟩ := open_int Try.underlying22 (hval 2 22 v2 rfl rfl) h2
  obtain ⟨a2, rfl⟩ : ∃ n : Nat, z2 = n := ⟨z2.toNat, by have := bounds_u16 w2; omega⟩
  have b2 := bounds_u16 w2
  clear hA0 hval0
  exact (walk a0 a1 a2 (by omega) (by omega) W).mono fun e W' ⟨he, hb⟩ => ⟨_, he, law_post (t := 4) laidOut (by kernel_rfl) rfl rfl Try.underlying4 ⟨rfl, rfl, rfl⟩ hW' hb⟩

theorem over : Rows.fsmTellsRow.holds Try.pinned (OpenSpec.ofChange Rows.fsmTellsSpec) :=
  OpenClaim.holds_of_wide 3 Try.f3 rfl rfl rfl rfl rfl rfl rfl ⟨rfl, rfl, rfl, rfl, rfl⟩ rfl rfl rfl rfl rfl (by kernel_rfl) Try.func3 (by kernel_rfl)
    (of_decide_eq_true (by kernel_rfl)) (by unfold Func.isWrapper; first | (rw [if_pos (by decide +kernel)]; kernel_rfl) | (rw [if_neg (by decide +kernel)]; exact ⟨rfl, rfl⟩))
    (fun os started H enc _ => lifted os started H enc)

theorem proved : Rows.FsmTellsSaid :=
  over
#print axioms proved
end Go.Proofs.Ytiglblmedaanpaa.FsmTells
