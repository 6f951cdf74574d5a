/- Contracts of lcpopt's canBePut and of the document's May. -/
import Derived.Test.YtpohcejgblahiaaGreatGLcoA
namespace Go.Proofs.YtpohcejgblahiaaGreat.Lco
open Go.RowKit Go.Proofs.YtpohcejgblahiaaGreat.Oct Go.Proofs.YtpohcejgblahiaaGreat.Row Go.Proofs.YtpohcejgblahiaaGreat.Mem Go.Proofs.YtpohcejgblahiaaGreat.Opt

set_option maxHeartbeats 4000000 in
set_option maxRecDepth 100000 in
theorem can_any (x : Lcp) (w : World) : Calls Tryz.prog 59 #[.agg (lv x).toArray] w fun e w' => e = .returned (.bool (may x)) ∧ Below w.heap.size w w' := by
  obtain ⟨W, hW, HW⟩ := boxL w x
  have HB := Lib.hid HW.out.2.1
  obtain ⟨hm, mru, ha, accm, auth, hg, magic, pfc, acfc⟩ := x
  show Calls Tryz.prog 59 #[.agg #[Value.bool hm, .int .u16 mru.toNat, .bool ha, .int .u32 accm.toNat, .int .u8 auth.toNat, .bool hg, .int .u32 magic.toNat, .bool pfc, .bool acfc]] w fun e w' => e = .returned (.bool (may ⟨hm, mru, ha, accm, auth, hg, magic, pfc, acfc⟩)) ∧ Below w.heap.size w w'
  have c0 : W.cell? ⟨w.heap.size, 0, none⟩ = some (Value.bool hm) := HW.out.1.c 0
  have c1 : W.cell? ⟨w.heap.size, 1, none⟩ = some (.int .u16 mru.toNat) := HW.out.1.c 1
  have c2 : W.cell? ⟨w.heap.size, 2, none⟩ = some (.bool ha) := HW.out.1.c 2
  have c3 : W.cell? ⟨w.heap.size, 3, none⟩ = some (.int .u32 accm.toNat) := HW.out.1.c 3
  have c4 : W.cell? ⟨w.heap.size, 4, none⟩ = some (.int .u8 auth.toNat) := HW.out.1.c 4
  have c5 : W.cell? ⟨w.heap.size, 5, none⟩ = some (.bool hg) := HW.out.1.c 5
  have c6 : W.cell? ⟨w.heap.size, 6, none⟩ = some (.int .u32 magic.toNat) := HW.out.1.c 6
  clear HW
  by_cases k0 : auth ≤ 2
  · have x0 : (auth.toNat : Int) ≤ 2 := by have := UInt8.le_iff_toNat_le.1 k0; have e : (2 : UInt8).toNat = 2 := rfl; omega
    cases hm
    · by_cases k1 : mru = 0
      · have x1 : ((mru.toNat : Int) == 0) = true := by rw [k1]; rfl
        cases ha
        · by_cases k2 : accm = 0
          · have x2 : ((accm.toNat : Int) == 0) = true := by rw [k2]; rfl
            cases hg
            · by_cases k3 : magic = 0
              · have x3 : ((magic.toNat : Int) == 0) = true := by rw [k3]; rfl
                have HM : Hid (may ⟨false, mru, false, accm, auth, false, magic, pfc, acfc⟩ = true) := by
                  show _ = _
                  unfold may
                  simp [k0, k1, k2, k3]
                clear k0 k1 k2 k3
                go_enter Tryz.func59, Tryz.ntmps59
                go_wp2
                go_ret
                exact ⟨by rw [HM.out] <;> rfl, HB.out⟩
              · have x3 : ((magic.toNat : Int) == 0) = false := by rw [beq_eq_false_iff_ne]; intro e; exact k3 (UInt32.toNat_inj.1 (by show magic.toNat = 0; omega))
                have HM : Hid (may ⟨false, mru, false, accm, auth, false, magic, pfc, acfc⟩ = false) := by
                  show _ = _
                  unfold may
                  simp [k0, k1, k2, k3]
                clear k0 k1 k2 k3
                go_enter Tryz.func59, Tryz.ntmps59
                go_wp2
                go_ret
                exact ⟨by rw [HM.out] <;> rfl, HB.out⟩
            · skip
              have HM : Hid (may ⟨false, mru, false, accm, auth, true, magic, pfc, acfc⟩ = true) := by
                show _ = _
                unfold may
                simp [k0, k1, k2]
              clear k0 k1 k2
              go_enter Tryz.func59, Tryz.ntmps59
              go_wp2
              go_ret
              exact ⟨by rw [HM.out] <;> rfl, HB.out⟩
          · have x2 : ((accm.toNat : Int) == 0) = false := by rw [beq_eq_false_iff_ne]; intro e; exact k2 (UInt32.toNat_inj.1 (by show accm.toNat = 0; omega))
            have HM : Hid (may ⟨false, mru, false, accm, auth, hg, magic, pfc, acfc⟩ = false) := by
              show _ = _
              unfold may
              simp [k0, k1, k2]
            clear k0 k1 k2
            go_enter Tryz.func59, Tryz.ntmps59
            go_wp2
            go_ret
            exact ⟨by rw [HM.out] <;> rfl, HB.out⟩
        · skip
          cases hg
          · by_cases k3 : magic = 0
            · have x3 : ((magic.toNat : Int) == 0) = true := by rw [k3]; rfl
              have HM : Hid (may ⟨false, mru, true, accm, auth, false, magic, pfc, acfc⟩ = true) := by
                show _ = _
                unfold may
                simp [k0, k1, k3]
              clear k0 k1 k3
              go_enter Tryz.func59, Tryz.ntmps59
              go_wp2
              go_ret
              exact ⟨by rw [HM.out] <;> rfl, HB.out⟩
            · have x3 : ((magic.toNat : Int) == 0) = false := by rw [beq_eq_false_iff_ne]; intro e; exact k3 (UInt32.toNat_inj.1 (by show magic.toNat = 0; omega))
              have HM : Hid (may ⟨false, mru, true, accm, auth, false, magic, pfc, acfc⟩ = false) := by
                show _ = _
                unfold may
                simp [k0, k1, k3]
              clear k0 k1 k3
              go_enter Tryz.func59, Tryz.ntmps59
              go_wp2
              go_ret
              exact ⟨by rw [HM.out] <;> rfl, HB.out⟩
          · skip
            have HM : Hid (may ⟨false, mru, true, accm, auth, true, magic, pfc, acfc⟩ = true) := by
              show _ = _
              unfold may
              simp [k0, k1]
            clear k0 k1
            go_enter Tryz.func59, Tryz.ntmps59
            go_wp2
            go_ret
            exact ⟨by rw [HM.out] <;> rfl, HB.out⟩
      · have x1 : ((mru.toNat : Int) == 0) = false := by rw [beq_eq_false_iff_ne]; intro e; exact k1 (UInt16.toNat_inj.1 (by show mru.toNat = 0; omega))
        have HM : Hid (may ⟨false, mru, ha, accm, auth, hg, magic, pfc, acfc⟩ = false) := by
          show _ = _
          unfold may
          simp [k0, k1]
        clear k0 k1
        go_enter Tryz.func59, Tryz.ntmps59
        go_wp2
        go_ret
        exact ⟨by rw [HM.out] <;> rfl, HB.out⟩
    · skip
      cases ha
      · by_cases k2 : accm = 0
        · have x2 : ((accm.toNat : Int) == 0) = true := by rw [k2]; rfl
          cases hg
          · by_cases k3 : magic = 0
            · have x3 : ((magic.toNat : Int) == 0) = true := by rw [k3]; rfl
              have HM : Hid (may ⟨true, mru, false, accm, auth, false, magic, pfc, acfc⟩ = true) := by
                show _ = _
                unfold may
                simp [k0, k2, k3]
              clear k0 k2 k3
              go_enter Tryz.func59, Tryz.ntmps59
              go_wp2
              go_ret
              exact ⟨by rw [HM.out] <;> rfl, HB.out⟩
            · have x3 : ((magic.toNat : Int) == 0) = false := by rw [beq_eq_false_iff_ne]; intro e; exact k3 (UInt32.toNat_inj.1 (by show magic.toNat = 0; omega))
              have HM : Hid (may ⟨true, mru, false, accm, auth, false, magic, pfc, acfc⟩ = false) := by
                show _ = _
                unfold may
                simp [k0, k2, k3]
              clear k0 k2 k3
              go_enter Tryz.func59, Tryz.ntmps59
              go_wp2
              go_ret
              exact ⟨by rw [HM.out] <;> rfl, HB.out⟩
          · skip
            have HM : Hid (may ⟨true, mru, false, accm, auth, true, magic, pfc, acfc⟩ = true) := by
              show _ = _
              unfold may
              simp [k0, k2]
            clear k0 k2
            go_enter Tryz.func59, Tryz.ntmps59
            go_wp2
            go_ret
            exact ⟨by rw [HM.out] <;> rfl, HB.out⟩
        · have x2 : ((accm.toNat : Int) == 0) = false := by rw [beq_eq_false_iff_ne]; intro e; exact k2 (UInt32.toNat_inj.1 (by show accm.toNat = 0; omega))
          have HM : Hid (may ⟨true, mru, false, accm, auth, hg, magic, pfc, acfc⟩ = false) := by
            show _ = _
            unfold may
            simp [k0, k2]
          clear k0 k2
          go_enter Tryz.func59, Tryz.ntmps59
          go_wp2
          go_ret
          exact ⟨by rw [HM.out] <;> rfl, HB.out⟩
      · skip
        cases hg
        · by_cases k3 : magic = 0
          · have x3 : ((magic.toNat : Int) == 0) = true := by rw [k3]; rfl
            have HM : Hid (may ⟨true, mru, true, accm, auth, false, magic, pfc, acfc⟩ = true) := by
              show _ = _
              unfold may
              simp [k0, k3]
            clear k0 k3
            go_enter Tryz.func59, Tryz.ntmps59
            go_wp2
            go_ret
            exact ⟨by rw [HM.out] <;> rfl, HB.out⟩
          · have x3 : ((magic.toNat : Int) == 0) = false := by rw [beq_eq_false_iff_ne]; intro e; exact k3 (UInt32.toNat_inj.1 (by show magic.toNat = 0; omega))
            have HM : Hid (may ⟨true, mru, true, accm, auth, false, magic, pfc, acfc⟩ = false) := by
              show _ = _
              unfold may
              simp [k0, k3]
            clear k0 k3
            go_enter Tryz.func59, Tryz.ntmps59
            go_wp2
            go_ret
            exact ⟨by rw [HM.out] <;> rfl, HB.out⟩
        · skip
          have HM : Hid (may ⟨true, mru, true, accm, auth, true, magic, pfc, acfc⟩ = true) := by
            show _ = _
            unfold may
            simp [k0]
          clear k0
          go_enter Tryz.func59, Tryz.ntmps59
          go_wp2
          go_ret
          exact ⟨by rw [HM.out] <;> rfl, HB.out⟩
  · have x0 : ¬ (auth.toNat : Int) ≤ 2 := fun e => k0 (UInt8.le_iff_toNat_le.2 (by have e2 : (2 : UInt8).toNat = 2 := rfl; omega))
    have HM : Hid (may ⟨hm, mru, ha, accm, auth, hg, magic, pfc, acfc⟩ = false) := by
      show _ = _
      unfold may
      simp [k0]
    clear k0
    go_enter Tryz.func59, Tryz.ntmps59
    go_wp2
    go_ret
    exact ⟨by rw [HM.out] <;> rfl, HB.out⟩
end Go.Proofs.YtpohcejgblahiaaGreat.Lco
