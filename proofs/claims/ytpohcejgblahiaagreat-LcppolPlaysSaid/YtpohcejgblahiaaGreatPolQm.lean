/- The document's May. Written by gen/pol_qb.py. -/
import Derived.Test.YtpohcejgblahiaaGreatPolQb
set_option linter.unusedSimpArgs false
set_option linter.unusedVariables false
namespace Go.Proofs.YtpohcejgblahiaaGreat.Pol
open Go.RowKit Go.Proofs.YtpohcejgblahiaaGreat.Oct Go.Proofs.YtpohcejgblahiaaGreat.Row Go.Proofs.YtpohcejgblahiaaGreat.Mem Go.Proofs.YtpohcejgblahiaaGreat.Opt Go.Proofs.YtpohcejgblahiaaGreat.Lco

theorem u16_ne0' (v : UInt16) : ((v.toNat : Int) != 0) = !(v == 0) := by rw [← u16_eq0]; rfl
theorem u32_ne0' (v : UInt32) : ((v.toNat : Int) != 0) = !(v == 0) := by rw [← u32_eq0]; rfl
theorem u16_lt (v : UInt16) : decide ((v.toNat : Int) < 64) = !decide (64 ≤ v) := by
  rw [← u16_ge, ← decide_not, decide_eq_decide]; omega
theorem u8_gt (v n : UInt8) (k : Int) (hk : k = (n.toNat : Int)) : decide (k < (v.toNat : Int)) = !decide (v ≤ n) := by
  rw [← u8_le v n k hk, ← decide_not, decide_eq_decide]; omega
set_option maxHeartbeats 8000000 in
set_option maxRecDepth 100000 in
theorem rmayC_any (c : Conf) (w : World) : Calls Tryz.prog 19 #[.agg #[Value.int .u16 c.mru.toNat, Value.bool c.ha, Value.int .u32 c.accm.toNat, Value.int .u8 c.auth.toNat, Value.int .u8 c.takes.toNat, Value.int .u8 c.can.toNat, Value.bool c.mg, Value.bool c.pfc, Value.bool c.acfc, Value.int .i64 c.mn]] w fun e w' => e = .returned (.bool (mayC c)) ∧ Below w.heap.size w w' := by
  obtain ⟨W, hW, HW⟩ := boxC w c
  obtain ⟨c0, c1, c2, c3, c4, c5, c6, c7, c8, c9⟩ := HW.out.1.all
  have HB := Lib.hid HW.out.2.1
  have HSz := Lib.hid HW.out.2.2
  have h1 := u16_ne0' c.mru
  have h2 := u16_lt c.mru
  have h4 := u32_ne0' c.accm
  have h5 := u8_gt c.auth 2 2 rfl
  have h6 := u8_gt c.takes 3 3 rfl
  have h7 := u8_gt c.can 3 3 rfl
  have h8 : decide (c.mn < 1) = !decide (1 ≤ c.mn) := by rw [← decide_not, decide_eq_decide]; omega
  have h9 : decide (10 < c.mn) = !decide (c.mn ≤ 10) := by rw [← decide_not, decide_eq_decide]; omega
  have h10 := u8_eq0 c.auth
  have k1 := u8_eq0 c.takes
  have k2 := u8_bits c.takes c.auth
  obtain ⟨t8, h8'⟩ : ∃ b, decide (1 ≤ c.mn) = b := ⟨_, rfl⟩
  obtain ⟨t9, h9'⟩ : ∃ b, decide (c.mn ≤ 10) = b := ⟨_, rfl⟩
  have HV : Hid (mayC c = ((c.mru == 0 || decide (64 ≤ c.mru)) && (c.ha || c.accm == 0) && decide (c.auth ≤ 2) && decide (c.takes ≤ 3) && decide (c.can ≤ 3) && (if c.auth == 0 then c.takes == 0 else c.takes &&& c.auth != 0) && t8 && t9)) := by
    show _ = _
    rw [← h8', ← h9']
    have e : fits c.auth c.takes = (if c.auth == 0 then c.takes == 0 else c.takes &&& c.auth != 0) := by
      unfold fits
      simp only [beq_iff_eq]
    rw [← e]
    rfl
  rw [h8'] at h8
  rw [h9'] at h9
  have HBit : Hid (decide (c.auth ≤ 2) = true → ∀ w, Calls Tryz.prog 43 #[.int .u8 c.auth.toNat] w fun e w' => e = .returned (.int .u8 c.auth.toNat) ∧ w = w') := fun h w => rbit_any c.auth (of_decide_eq_true h) w
  clear h8' h9'
  generalize (c.mru == 0) = t1 at *
  generalize decide (64 ≤ c.mru) = t2 at *
  generalize c.ha = t3 at *
  generalize (c.accm == 0) = t4 at *
  generalize decide (c.auth ≤ 2) = t5 at *
  generalize decide (c.takes ≤ 3) = t6 at *
  generalize decide (c.can ≤ 3) = t7 at *
  generalize (c.auth == 0) = t10 at *
  generalize (c.takes == 0) = u1 at *
  generalize (c.takes &&& c.auth != 0) = u2 at *
  clear HW
  cases t1
  · cases t2
    · as_aux_lemma =>
        have HE : Hid (mayC c = false) := by show _ = _; rw [HV.out]; simp
        go_enter Tryz.func19, Tryz.ntmps19
        go_wp2
        go_ret
        exact ⟨by rw [HE.out] <;> rfl, HB.out⟩
    · cases t3
      · cases t4
        · as_aux_lemma =>
            have HE : Hid (mayC c = false) := by show _ = _; rw [HV.out]; simp
            go_enter Tryz.func19, Tryz.ntmps19
            go_wp2
            go_ret
            exact ⟨by rw [HE.out] <;> rfl, HB.out⟩
        · cases t5
          · as_aux_lemma =>
              have HE : Hid (mayC c = false) := by show _ = _; rw [HV.out]; simp
              go_enter Tryz.func19, Tryz.ntmps19
              go_wp2
              go_ret
              exact ⟨by rw [HE.out] <;> rfl, HB.out⟩
          · cases t6
            · as_aux_lemma =>
                have HE : Hid (mayC c = false) := by show _ = _; rw [HV.out]; simp
                go_enter Tryz.func19, Tryz.ntmps19
                go_wp2
                go_ret
                exact ⟨by rw [HE.out] <;> rfl, HB.out⟩
            · cases t7
              · as_aux_lemma =>
                  have HE : Hid (mayC c = false) := by show _ = _; rw [HV.out]; simp
                  go_enter Tryz.func19, Tryz.ntmps19
                  go_wp2
                  go_ret
                  exact ⟨by rw [HE.out] <;> rfl, HB.out⟩
              · cases t8
                · as_aux_lemma =>
                    have HE : Hid (mayC c = false) := by show _ = _; rw [HV.out]; simp
                    go_enter Tryz.func19, Tryz.ntmps19
                    go_wp2
                    go_ret
                    exact ⟨by rw [HE.out] <;> rfl, HB.out⟩
                · cases t9
                  · as_aux_lemma =>
                      have HE : Hid (mayC c = false) := by show _ = _; rw [HV.out]; simp
                      go_enter Tryz.func19, Tryz.ntmps19
                      go_wp2
                      go_ret
                      exact ⟨by rw [HE.out] <;> rfl, HB.out⟩
                  · cases t10
                    · as_aux_lemma =>
                        have HE : Hid (mayC c = u2) := by show _ = _; rw [HV.out]; simp
                        have c3' : ∀ q : HeldW (fun w' => Below W.heap.size W w'), q.w.cell? ⟨w.heap.size, 3, none⟩ = some (.int .u8 c.auth.toNat) := fun q => (q.h.cell (by have := HSz.out; show w.heap.size < _; omega)).trans c3
                        have c4' : ∀ q : HeldW (fun w' => Below W.heap.size W w'), q.w.cell? ⟨w.heap.size, 4, none⟩ = some (.int .u8 c.takes.toNat) := fun q => (q.h.cell (by have := HSz.out; show w.heap.size < _; omega)).trans c4
                        have HA : Hid (∀ q : HeldW (fun w' => Below W.heap.size W w'), Calls Tryz.prog 43 #[.int .u8 c.auth.toNat] q.w fun e w' => e = .returned (.int .u8 c.auth.toNat) ∧ Below W.heap.size W w') := fun q => (HBit.out (by trivial) q.w).mono fun e w' ⟨he, hw⟩ => ⟨he, hw ▸ q.h⟩
                        go_enter Tryz.func19, Tryz.ntmps19
                        go_wp2_with fail
                        clear hW c0 c1 c2 c3 c4 c5 c6 c7 c8 c9 h1 h2 h4 h5 h6 h7 h8 h9 h10 k1
                        have hne : Nonempty (HeldW (fun w' => Below W.heap.size W w')) := ⟨⟨W.drew, (Below.refl W.heap.size W).drew⟩⟩
                        refine wp_region_quiet_shut (fun w' => Below W.heap.size W w') (by kernel_rfl) (by kernel_rfl) (Below.refl W.heap.size W).drew (fun G hst hnil => ?_)
                        repeat (
                          refine hst.out _ _ _ (fun K hK => ?_)
                          go_simp
                          first
                            | (refine hK _ ?_; clear hK K)
                            | (apply Exists.intro
                               refine ⟨fun _ => ?_, hK _ ?_⟩
                               (first
                                 | (go_at_call 43; exact held_of (HA.out _)))
                               clear hK K))
                        refine hnil.out _ (fun q => ?_)
                        clear hnil hst
                        have HBq : Hid (Below w.heap.size w q.w) := HB.out.trans (Below.mono (show Below W.heap.size W q.w from q.h) HB.out.size)
                        go_wp2
                        go_ret
                        exact ⟨by rw [HE.out] <;> rfl, HBq.out⟩
                    · as_aux_lemma =>
                        have HE : Hid (mayC c = u1) := by show _ = _; rw [HV.out]; simp
                        go_enter Tryz.func19, Tryz.ntmps19
                        go_wp2
                        go_ret
                        exact ⟨by rw [HE.out] <;> rfl, HB.out⟩
      · cases t5
        · as_aux_lemma =>
            have HE : Hid (mayC c = false) := by show _ = _; rw [HV.out]; simp
            go_enter Tryz.func19, Tryz.ntmps19
            go_wp2
            go_ret
            exact ⟨by rw [HE.out] <;> rfl, HB.out⟩
        · cases t6
          · as_aux_lemma =>
              have HE : Hid (mayC c = false) := by show _ = _; rw [HV.out]; simp
              go_enter Tryz.func19, Tryz.ntmps19
              go_wp2
              go_ret
              exact ⟨by rw [HE.out] <;> rfl, HB.out⟩
          · cases t7
            · as_aux_lemma =>
                have HE : Hid (mayC c = false) := by show _ = _; rw [HV.out]; simp
                go_enter Tryz.func19, Tryz.ntmps19
                go_wp2
                go_ret
                exact ⟨by rw [HE.out] <;> rfl, HB.out⟩
            · cases t8
              · as_aux_lemma =>
                  have HE : Hid (mayC c = false) := by show _ = _; rw [HV.out]; simp
                  go_enter Tryz.func19, Tryz.ntmps19
                  go_wp2
                  go_ret
                  exact ⟨by rw [HE.out] <;> rfl, HB.out⟩
              · cases t9
                · as_aux_lemma =>
                    have HE : Hid (mayC c = false) := by show _ = _; rw [HV.out]; simp
                    go_enter Tryz.func19, Tryz.ntmps19
                    go_wp2
                    go_ret
                    exact ⟨by rw [HE.out] <;> rfl, HB.out⟩
                · cases t10
                  · as_aux_lemma =>
                      have HE : Hid (mayC c = u2) := by show _ = _; rw [HV.out]; simp
                      have c3' : ∀ q : HeldW (fun w' => Below W.heap.size W w'), q.w.cell? ⟨w.heap.size, 3, none⟩ = some (.int .u8 c.auth.toNat) := fun q => (q.h.cell (by have := HSz.out; show w.heap.size < _; omega)).trans c3
                      have c4' : ∀ q : HeldW (fun w' => Below W.heap.size W w'), q.w.cell? ⟨w.heap.size, 4, none⟩ = some (.int .u8 c.takes.toNat) := fun q => (q.h.cell (by have := HSz.out; show w.heap.size < _; omega)).trans c4
                      have HA : Hid (∀ q : HeldW (fun w' => Below W.heap.size W w'), Calls Tryz.prog 43 #[.int .u8 c.auth.toNat] q.w fun e w' => e = .returned (.int .u8 c.auth.toNat) ∧ Below W.heap.size W w') := fun q => (HBit.out (by trivial) q.w).mono fun e w' ⟨he, hw⟩ => ⟨he, hw ▸ q.h⟩
                      go_enter Tryz.func19, Tryz.ntmps19
                      go_wp2_with fail
                      clear hW c0 c1 c2 c3 c4 c5 c6 c7 c8 c9 h1 h2 h4 h5 h6 h7 h8 h9 h10 k1
                      have hne : Nonempty (HeldW (fun w' => Below W.heap.size W w')) := ⟨⟨W.drew, (Below.refl W.heap.size W).drew⟩⟩
                      refine wp_region_quiet_shut (fun w' => Below W.heap.size W w') (by kernel_rfl) (by kernel_rfl) (Below.refl W.heap.size W).drew (fun G hst hnil => ?_)
                      repeat (
                        refine hst.out _ _ _ (fun K hK => ?_)
                        go_simp
                        first
                          | (refine hK _ ?_; clear hK K)
                          | (apply Exists.intro
                             refine ⟨fun _ => ?_, hK _ ?_⟩
                             (first
                               | (go_at_call 43; exact held_of (HA.out _)))
                             clear hK K))
                      refine hnil.out _ (fun q => ?_)
                      clear hnil hst
                      have HBq : Hid (Below w.heap.size w q.w) := HB.out.trans (Below.mono (show Below W.heap.size W q.w from q.h) HB.out.size)
                      go_wp2
                      go_ret
                      exact ⟨by rw [HE.out] <;> rfl, HBq.out⟩
                  · as_aux_lemma =>
                      have HE : Hid (mayC c = u1) := by show _ = _; rw [HV.out]; simp
                      go_enter Tryz.func19, Tryz.ntmps19
                      go_wp2
                      go_ret
                      exact ⟨by rw [HE.out] <;> rfl, HB.out⟩
  · cases t3
    · cases t4
      · as_aux_lemma =>
          have HE : Hid (mayC c = false) := by show _ = _; rw [HV.out]; simp
          go_enter Tryz.func19, Tryz.ntmps19
          go_wp2
          go_ret
          exact ⟨by rw [HE.out] <;> rfl, HB.out⟩
      · cases t5
        · as_aux_lemma =>
            have HE : Hid (mayC c = false) := by show _ = _; rw [HV.out]; simp
            go_enter Tryz.func19, Tryz.ntmps19
            go_wp2
            go_ret
            exact ⟨by rw [HE.out] <;> rfl, HB.out⟩
        · cases t6
          · as_aux_lemma =>
              have HE : Hid (mayC c = false) := by show _ = _; rw [HV.out]; simp
              go_enter Tryz.func19, Tryz.ntmps19
              go_wp2
              go_ret
              exact ⟨by rw [HE.out] <;> rfl, HB.out⟩
          · cases t7
            · as_aux_lemma =>
                have HE : Hid (mayC c = false) := by show _ = _; rw [HV.out]; simp
                go_enter Tryz.func19, Tryz.ntmps19
                go_wp2
                go_ret
                exact ⟨by rw [HE.out] <;> rfl, HB.out⟩
            · cases t8
              · as_aux_lemma =>
                  have HE : Hid (mayC c = false) := by show _ = _; rw [HV.out]; simp
                  go_enter Tryz.func19, Tryz.ntmps19
                  go_wp2
                  go_ret
                  exact ⟨by rw [HE.out] <;> rfl, HB.out⟩
              · cases t9
                · as_aux_lemma =>
                    have HE : Hid (mayC c = false) := by show _ = _; rw [HV.out]; simp
                    go_enter Tryz.func19, Tryz.ntmps19
                    go_wp2
                    go_ret
                    exact ⟨by rw [HE.out] <;> rfl, HB.out⟩
                · cases t10
                  · as_aux_lemma =>
                      have HE : Hid (mayC c = u2) := by show _ = _; rw [HV.out]; simp
                      have c3' : ∀ q : HeldW (fun w' => Below W.heap.size W w'), q.w.cell? ⟨w.heap.size, 3, none⟩ = some (.int .u8 c.auth.toNat) := fun q => (q.h.cell (by have := HSz.out; show w.heap.size < _; omega)).trans c3
                      have c4' : ∀ q : HeldW (fun w' => Below W.heap.size W w'), q.w.cell? ⟨w.heap.size, 4, none⟩ = some (.int .u8 c.takes.toNat) := fun q => (q.h.cell (by have := HSz.out; show w.heap.size < _; omega)).trans c4
                      have HA : Hid (∀ q : HeldW (fun w' => Below W.heap.size W w'), Calls Tryz.prog 43 #[.int .u8 c.auth.toNat] q.w fun e w' => e = .returned (.int .u8 c.auth.toNat) ∧ Below W.heap.size W w') := fun q => (HBit.out (by trivial) q.w).mono fun e w' ⟨he, hw⟩ => ⟨he, hw ▸ q.h⟩
                      go_enter Tryz.func19, Tryz.ntmps19
                      go_wp2_with fail
                      clear hW c0 c1 c2 c3 c4 c5 c6 c7 c8 c9 h1 h2 h4 h5 h6 h7 h8 h9 h10 k1
                      have hne : Nonempty (HeldW (fun w' => Below W.heap.size W w')) := ⟨⟨W.drew, (Below.refl W.heap.size W).drew⟩⟩
                      refine wp_region_quiet_shut (fun w' => Below W.heap.size W w') (by kernel_rfl) (by kernel_rfl) (Below.refl W.heap.size W).drew (fun G hst hnil => ?_)
                      repeat (
                        refine hst.out _ _ _ (fun K hK => ?_)
                        go_simp
                        first
                          | (refine hK _ ?_; clear hK K)
                          | (apply Exists.intro
                             refine ⟨fun _ => ?_, hK _ ?_⟩
                             (first
                               | (go_at_call 43; exact held_of (HA.out _)))
                             clear hK K))
                      refine hnil.out _ (fun q => ?_)
                      clear hnil hst
                      have HBq : Hid (Below w.heap.size w q.w) := HB.out.trans (Below.mono (show Below W.heap.size W q.w from q.h) HB.out.size)
                      go_wp2
                      go_ret
                      exact ⟨by rw [HE.out] <;> rfl, HBq.out⟩
                  · as_aux_lemma =>
                      have HE : Hid (mayC c = u1) := by show _ = _; rw [HV.out]; simp
                      go_enter Tryz.func19, Tryz.ntmps19
                      go_wp2
                      go_ret
                      exact ⟨by rw [HE.out] <;> rfl, HB.out⟩
    · cases t5
      · as_aux_lemma =>
          have HE : Hid (mayC c = false) := by show _ = _; rw [HV.out]; simp
          go_enter Tryz.func19, Tryz.ntmps19
          go_wp2
          go_ret
          exact ⟨by rw [HE.out] <;> rfl, HB.out⟩
      · cases t6
        · as_aux_lemma =>
            have HE : Hid (mayC c = false) := by show _ = _; rw [HV.out]; simp
            go_enter Tryz.func19, Tryz.ntmps19
            go_wp2
            go_ret
            exact ⟨by rw [HE.out] <;> rfl, HB.out⟩
        · cases t7
          · as_aux_lemma =>
              have HE : Hid (mayC c = false) := by show _ = _; rw [HV.out]; simp
              go_enter Tryz.func19, Tryz.ntmps19
              go_wp2
              go_ret
              exact ⟨by rw [HE.out] <;> rfl, HB.out⟩
          · cases t8
            · as_aux_lemma =>
                have HE : Hid (mayC c = false) := by show _ = _; rw [HV.out]; simp
                go_enter Tryz.func19, Tryz.ntmps19
                go_wp2
                go_ret
                exact ⟨by rw [HE.out] <;> rfl, HB.out⟩
            · cases t9
              · as_aux_lemma =>
                  have HE : Hid (mayC c = false) := by show _ = _; rw [HV.out]; simp
                  go_enter Tryz.func19, Tryz.ntmps19
                  go_wp2
                  go_ret
                  exact ⟨by rw [HE.out] <;> rfl, HB.out⟩
              · cases t10
                · as_aux_lemma =>
                    have HE : Hid (mayC c = u2) := by show _ = _; rw [HV.out]; simp
                    have c3' : ∀ q : HeldW (fun w' => Below W.heap.size W w'), q.w.cell? ⟨w.heap.size, 3, none⟩ = some (.int .u8 c.auth.toNat) := fun q => (q.h.cell (by have := HSz.out; show w.heap.size < _; omega)).trans c3
                    have c4' : ∀ q : HeldW (fun w' => Below W.heap.size W w'), q.w.cell? ⟨w.heap.size, 4, none⟩ = some (.int .u8 c.takes.toNat) := fun q => (q.h.cell (by have := HSz.out; show w.heap.size < _; omega)).trans c4
                    have HA : Hid (∀ q : HeldW (fun w' => Below W.heap.size W w'), Calls Tryz.prog 43 #[.int .u8 c.auth.toNat] q.w fun e w' => e = .returned (.int .u8 c.auth.toNat) ∧ Below W.heap.size W w') := fun q => (HBit.out (by trivial) q.w).mono fun e w' ⟨he, hw⟩ => ⟨he, hw ▸ q.h⟩
                    go_enter Tryz.func19, Tryz.ntmps19
                    go_wp2_with fail
                    clear hW c0 c1 c2 c3 c4 c5 c6 c7 c8 c9 h1 h2 h4 h5 h6 h7 h8 h9 h10 k1
                    have hne : Nonempty (HeldW (fun w' => Below W.heap.size W w')) := ⟨⟨W.drew, (Below.refl W.heap.size W).drew⟩⟩
                    refine wp_region_quiet_shut (fun w' => Below W.heap.size W w') (by kernel_rfl) (by kernel_rfl) (Below.refl W.heap.size W).drew (fun G hst hnil => ?_)
                    repeat (
                      refine hst.out _ _ _ (fun K hK => ?_)
                      go_simp
                      first
                        | (refine hK _ ?_; clear hK K)
                        | (apply Exists.intro
                           refine ⟨fun _ => ?_, hK _ ?_⟩
                           (first
                             | (go_at_call 43; exact held_of (HA.out _)))
                           clear hK K))
                    refine hnil.out _ (fun q => ?_)
                    clear hnil hst
                    have HBq : Hid (Below w.heap.size w q.w) := HB.out.trans (Below.mono (show Below W.heap.size W q.w from q.h) HB.out.size)
                    go_wp2
                    go_ret
                    exact ⟨by rw [HE.out] <;> rfl, HBq.out⟩
                · as_aux_lemma =>
                    have HE : Hid (mayC c = u1) := by show _ = _; rw [HV.out]; simp
                    go_enter Tryz.func19, Tryz.ntmps19
                    go_wp2
                    go_ret
                    exact ⟨by rw [HE.out] <;> rfl, HB.out⟩
end Go.Proofs.YtpohcejgblahiaaGreat.Pol
