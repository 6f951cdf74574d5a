/- The document's echo: Packet. -/
import Derived.Test.YtimndcfhilcgfaaEchK
namespace Go.Proofs.Ytimndcfhilcgfaa.Ech
open Go.RowKit Go.Proofs.Ytimndcfhilcgfaa.Oct Go.Proofs.Ytimndcfhilcgfaa.Row Go.Proofs.Ytimndcfhilcgfaa.Mem

set_option maxHeartbeats 4000000 in
set_option maxRecDepth 100000 in
theorem rpacket_any (g : Nat) (x : Ec) (p : Pk) (w : World) (h : RAt w g x) (hg : x.mg < 4294967296) (hs : p.d.size ≤ 140737488351232) :
    Calls Try.prog 17 #[ptr g, .agg #[.int .u8 p.c.toNat, .int .u8 p.i.toNat, .string p.d]] w (ROutQ g (gt x p) (pL x p) (pE x p) w) := by
  obtain ⟨W, hW, sW, HW⟩ := box_p w p.c p.i p.d
  have HSW := Lib.hid sW
  clear sW
  have c0 : W.cell? ⟨w.heap.size, 0, none⟩ = some (.int .u8 p.c.toNat) := HW.out.1.c0
  have c1 : W.cell? ⟨w.heap.size, 1, none⟩ = some (.int .u8 p.i.toNat) := HW.out.1.c1
  have c2 : W.cell? ⟨w.heap.size, 2, none⟩ = some (.string p.d) := HW.out.1.c2
  have H := Lib.hid (h.callee HW.out.2)
  have HM := Lib.hid (Moves.of_below (S := fun k => k = g) HW.out.2)
  obtain ⟨pc, pi, pd⟩ := p
  simp only at *
  obtain ⟨c, hc⟩ : ∃ c : Nat, pc.toNat = c := ⟨_, rfl⟩
  by_cases h8 : c ≠ 9 ∧ c ≠ 10 ∧ c ≠ 11
  · have e1 : pE x ⟨pc, pi, pd⟩ = 8 := by unfold pE; rw [if_pos (by rw [← hc] at h8; exact h8)]
    obtain ⟨e2, e3⟩ := pe_none (x := x) (p := ⟨pc, pi, pd⟩) (by rw [e1]; decide)
    rw [e1, e2, e3]
    have f9 : ((pc.toNat : Int) != 9) = true := by rw [bne_iff_ne]; omega
    have f10 : ((pc.toNat : Int) != 10) = true := by rw [bne_iff_ne]; omega
    have f11 : ((pc.toNat : Int) != 11) = true := by rw [bne_iff_ne]; omega
    clear e1 e2 e3 h8 h hc
    unfold ptr
    go_enter Try.func17, Try.ntmps17
    go_wp2
    go_ret2
    exact routq_none H.out HM.out
  · have hc9 : c = 9 ∨ c = 10 ∨ c = 11 := by omega
    have HC9 : Hid (pc.toNat = 9 ∨ pc.toNat = 10 ∨ pc.toNat = 11) := by rw [hc]; exact hc9
    obtain ⟨b9, f9⟩ : ∃ b, ((pc.toNat : Int) != 9) = b := ⟨_, rfl⟩
    obtain ⟨b10, f10⟩ : ∃ b, ((pc.toNat : Int) != 10) = b := ⟨_, rfl⟩
    obtain ⟨b11, f11⟩ : ∃ b, ((pc.toNat : Int) != 11) = b := ⟨_, rfl⟩
    have hb : (b9 && b10 && b11) = false := by
      rw [← f9, ← f10, ← f11]
      rcases hc9 with e | e | e <;> rw [hc, e] <;> rfl
    have g9 : ((pc.toNat : Int) == 9) = !b9 := by rw [← f9]; cases h9 : ((pc.toNat : Int) == 9) <;> simp_all [bne]
    have g10 : ((pc.toNat : Int) == 10) = !b10 := by rw [← f10]; cases h9 : ((pc.toNat : Int) == 10) <;> simp_all [bne]
    by_cases hd : pd.size < 4
    · have e1 : pE x ⟨pc, pi, pd⟩ = 6 := by unfold pE; rw [if_neg (by show ¬ (pc.toNat ≠ 9 ∧ pc.toNat ≠ 10 ∧ pc.toNat ≠ 11); have := HC9.out; omega), if_pos hd]
      obtain ⟨e2, e3⟩ := pe_none (x := x) (p := ⟨pc, pi, pd⟩) (by rw [e1]; decide)
      rw [e1, e2, e3]
      have hd1 : (pd.size : Int) < 4 := by omega
      clear e1 e2 e3 h8 h hc hc9
      unfold ptr
      cases b9 <;> cases b10 <;> cases b11 <;> first | cases hb | skip
      all_goals
        go_enter Try.func17, Try.ntmps17
        go_wp2
        go_ret2
        exact routq_none H.out HM.out
    · have hd1 : ¬ (pd.size : Int) < 4 := by omega
      have hd2 : 4 ≤ pd.size := by omega
      have HP : Hid (∀ W, Calls Try.prog 18 #[.int .u64 x.mg, .int .i64 4] W fun e w' => e = .returned (.string (own x)) ∧ Below W.heap.size W w') := fun W => rnum_any x.mg 4 W (by omega) (by decide)
      have m2 : W.cell? ⟨g, 2, none⟩ = some (.int .u32 x.mg) := H.out.c 2
      have hg0 : (0 : Int) ≤ (x.mg : Int) := Int.natCast_nonneg _
      have hg1 : (x.mg : Int) ≤ 4294967295 := by omega
      have HE := Lib.hid (extract_front pd 4)
      have hlb : loopB x pd = (((x.mg : Int) != 0) && (bOf (pd.toList.take 4)).toList == (own x).toList) := by
        unfold loopB
        congr 1
        rw [Bool.eq_iff_iff]
        simp
      cases hl : loopB x pd
      · obtain ⟨e1, e2, e3⟩ := gt_of (x := x) (p := ⟨pc, pi, pd⟩) HC9.out hd hl
        rw [e1, e2, e3]
        obtain ⟨q1, h1⟩ : ∃ q, ((x.mg : Int) != 0) = q := ⟨_, rfl⟩
        obtain ⟨q2, h2⟩ : ∃ q, ((pd.extract 0 4).toList == (own x).toList) = q := ⟨_, rfl⟩
        have hq : (q1 && q2) = false := by rw [← h1, ← h2, HE.out, ← hlb, hl]
        have HZ := Lib.hid (size_own x)
        have HX : Hid (bOf (pd.toList.drop 4) = pd.extract 4 pd.size) := (extract_rest pd 4).symm
        simp only
        rw [HX.out]
        clear e1 e2 e3 h8 h hlb hl HE hd hg
        generalize hY : own x = Y at *
        have HYo := Lib.hid hY
        clear hY
        have hRz : (pd.extract 4 pd.size).size ≤ 140737488351232 := by rw [ByteArray.size_extract]; omega
        unfold ptr
        rcases hc9 with e | e | e
        · have E9 : Hid (efX x pc.toNat pi = x ∧ efL x pc.toNat pi (pd.extract 4 pd.size) = [⟨10, pi, Y ++ pd.extract 4 pd.size⟩] ∧ efE x pc.toNat pi = 0) := by rw [hc, e]; exact ⟨rfl, by show [(⟨10, pi, own x ++ pd.extract 4 pd.size⟩ : Pk)] = _; rw [HYo.out], rfl⟩
          obtain rfl : b9 = false := by rw [← f9, hc, e]; rfl
          clear f10 f11 g10 hb e hc
          rw [E9.out.1, E9.out.2.1, E9.out.2.2]
          obtain ⟨R, hR⟩ : ∃ R, pd.extract 4 pd.size = R := ⟨_, rfl⟩
          have HR := Lib.hid hR
          have hsum : ¬ 9223372036854775807 < Y.size + R.size := by rw [← hR]; have := HZ.out; omega
          clear hRz E9
          cases q1 <;> cases q2 <;> first | cases hq | skip
          all_goals
            go_enter Try.func17, Try.ntmps17
            go_wp2_with fail
            refine (HP.out _).mono ?_
            rintro e w2 ⟨rfl, hb2⟩
            have n2 : w2.cell? ⟨g, 2, none⟩ = some (.int .u32 x.mg) := (hb2.cell (p := ⟨g, 2, none⟩) (World.block_lt_of_cell? _ _ m2)).trans m2
            have n0 : w2.cell? ⟨w.heap.size, 0, none⟩ = some (.int .u8 pc.toNat) := (hb2.cell (p := ⟨w.heap.size, 0, none⟩) (World.block_lt_of_cell? _ _ c0)).trans c0
            have n1 : w2.cell? ⟨w.heap.size, 1, none⟩ = some (.int .u8 pi.toNat) := (hb2.cell (p := ⟨w.heap.size, 1, none⟩) (World.block_lt_of_cell? _ _ c1)).trans c1
            have n3 : w2.cell? ⟨w.heap.size, 2, none⟩ = some (.string pd) := (hb2.cell (p := ⟨w.heap.size, 2, none⟩) (World.block_lt_of_cell? _ _ c2)).trans c2
            have H2 := Lib.hid (H.out.callee hb2)
            have HM2 := Lib.hid (HM.out.trans (Moves.of_below hb2) fun _ _ e => e)
            have lw2 : w.heap.size < w2.heap.size := Nat.lt_of_lt_of_le (by have := HSW.out; omega) hb2.size
            clear hb2
            go_wp2_with fail
            have k1 : w2.drew.cell? ⟨w.heap.size, 1, none⟩ = some (.int .u8 pi.toNat) := n1
            have k3 : w2.drew.cell? ⟨w.heap.size, 2, none⟩ = some (.string pd) := n3
            have HA := (Below.refl w2.heap.size w2.drew).alloc (Nat.le_refl _) (.cells #[.int .u8 10, .int .u8 pi.toNat, .string (Y ++ R)] 35)
            have a1 := (HA.cell (p := ⟨w.heap.size, 1, none⟩) lw2).trans k1
            have a3 := (HA.cell (p := ⟨w.heap.size, 2, none⟩) lw2).trans k3
            go_region_held3 (fun w' => w'.cell? ⟨w.heap.size, 1, none⟩ = some (.int .u8 pi.toNat) ∧ w'.cell? ⟨w.heap.size, 2, none⟩ = some (.string pd))
              (first | exact ⟨k1, k3⟩ | exact ⟨a1, a3⟩)
              (fail)
            go_wp2
            go_ret2
            have hq := routq_one (p := ⟨10, pi, Y ++ R⟩) (show RAt w2.drew g x from H2.out) (show Moves (fun k => k = g) w w2.drew from HM2.out.drew)
            rw [← HR.out] at hq
            rw [← HR.out]
            exact hq
        · have E9 : Hid (efX x pc.toNat pi = (if lateB x pi then x else { x with mi := 0 }) ∧ efL x pc.toNat pi (pd.extract 4 pd.size) = [] ∧ efE x pc.toNat pi = (if lateB x pi then 3 else 0)) := by rw [hc, e]; exact ⟨rfl, rfl, rfl⟩
          rw [E9.out.1, E9.out.2.1, E9.out.2.2]
          obtain rfl : b9 = true := by rw [← f9, hc, e]; rfl
          obtain rfl : b10 = false := by rw [← f10, hc, e]; rfl
          clear f11 hb e hc hRz
          have HLt : Hid (lateB x pi = (decide (x.n = 0) || !decide (pi.toNat = x.n % 256))) := rfl
          rw [HLt.out]
          clear E9
          obtain ⟨j, hj⟩ : ∃ j, x.n % 256 = j := ⟨_, rfl⟩
          have hj1 : (x.n : Int).tmod 256 = (j : Int) := by rw [← hj]; rfl
          have hj2 : IntKind.u8.wrap (j : Int) = (j : Int) := by rw [IntKind.wrap_u8]; omega
          rw [hj]
          obtain ⟨r, hr⟩ : ∃ r, decide (pi.toNat = j) = r := ⟨_, rfl⟩
          have hr1 : ((pi.toNat : Int) != (j : Int)) = !r := by rw [← hr, Bool.eq_iff_iff]; simp; omega
          rw [hr]
          clear hr hj
          by_cases hz : x.n = 0
          · have hz1 : ((x.n : Int) == 0) = true := by rw [hz]; rfl
            rw [decide_eq_true hz]
            simp only [Bool.true_or, if_true]
            clear hz hj1 hj2 hr1
            cases q1 <;> cases q2 <;> first | cases hq | skip
            all_goals
              go_enter Try.func17, Try.ntmps17
              go_wp2_with fail
              refine (HP.out _).mono ?_
              rintro e w2 ⟨rfl, hb2⟩
              have n2 : w2.cell? ⟨g, 2, none⟩ = some (.int .u32 x.mg) := (hb2.cell (p := ⟨g, 2, none⟩) (World.block_lt_of_cell? _ _ m2)).trans m2
              have n0 : w2.cell? ⟨w.heap.size, 0, none⟩ = some (.int .u8 pc.toNat) := (hb2.cell (p := ⟨w.heap.size, 0, none⟩) (World.block_lt_of_cell? _ _ c0)).trans c0
              have n1 : w2.cell? ⟨w.heap.size, 1, none⟩ = some (.int .u8 pi.toNat) := (hb2.cell (p := ⟨w.heap.size, 1, none⟩) (World.block_lt_of_cell? _ _ c1)).trans c1
              have n3 : w2.cell? ⟨w.heap.size, 2, none⟩ = some (.string pd) := (hb2.cell (p := ⟨w.heap.size, 2, none⟩) (World.block_lt_of_cell? _ _ c2)).trans c2
              have H2 := Lib.hid (H.out.callee hb2)
              have HM2 := Lib.hid (HM.out.trans (Moves.of_below hb2) fun _ _ e => e)
              have lw2 : w.heap.size < w2.heap.size := Nat.lt_of_lt_of_le (by have := HSW.out; omega) hb2.size
              clear hb2
              have n5 : w2.cell? ⟨g, 5, none⟩ = some (.int .i64 x.n) := H2.out.c 5
              go_wp2
              go_quiet (fail)
              go_wp2
              go_ret2
              exact routq_none (RAt.drewN H2.out nq) (HM2.out.drewN nq)
          · have hz1 : ((x.n : Int) == 0) = false := by rw [beq_eq_false_iff_ne]; omega
            rw [decide_eq_false hz]
            simp only [Bool.false_or]
            clear hz
            cases r
            · simp only [Bool.not_false, if_true] at hr1 ⊢
              cases q1 <;> cases q2 <;> first | cases hq | skip
              all_goals
                go_enter Try.func17, Try.ntmps17
                go_wp2_with fail
                refine (HP.out _).mono ?_
                rintro e w2 ⟨rfl, hb2⟩
                have n2 : w2.cell? ⟨g, 2, none⟩ = some (.int .u32 x.mg) := (hb2.cell (p := ⟨g, 2, none⟩) (World.block_lt_of_cell? _ _ m2)).trans m2
                have n0 : w2.cell? ⟨w.heap.size, 0, none⟩ = some (.int .u8 pc.toNat) := (hb2.cell (p := ⟨w.heap.size, 0, none⟩) (World.block_lt_of_cell? _ _ c0)).trans c0
                have n1 : w2.cell? ⟨w.heap.size, 1, none⟩ = some (.int .u8 pi.toNat) := (hb2.cell (p := ⟨w.heap.size, 1, none⟩) (World.block_lt_of_cell? _ _ c1)).trans c1
                have n3 : w2.cell? ⟨w.heap.size, 2, none⟩ = some (.string pd) := (hb2.cell (p := ⟨w.heap.size, 2, none⟩) (World.block_lt_of_cell? _ _ c2)).trans c2
                have H2 := Lib.hid (H.out.callee hb2)
                have HM2 := Lib.hid (HM.out.trans (Moves.of_below hb2) fun _ _ e => e)
                have lw2 : w.heap.size < w2.heap.size := Nat.lt_of_lt_of_le (by have := HSW.out; omega) hb2.size
                clear hb2
                have n5 : w2.cell? ⟨g, 5, none⟩ = some (.int .i64 x.n) := H2.out.c 5
                go_wp2
                go_quiet (fail)
                go_wp2
                go_ret2
                exact routq_none (RAt.drewN H2.out nq) (HM2.out.drewN nq)
            · simp only [Bool.not_true, Bool.false_eq_true, if_false] at hr1 ⊢
              cases q1 <;> cases q2 <;> first | cases hq | skip
              all_goals
                go_enter Try.func17, Try.ntmps17
                go_wp2_with fail
                refine (HP.out _).mono ?_
                rintro e w2 ⟨rfl, hb2⟩
                have n2 : w2.cell? ⟨g, 2, none⟩ = some (.int .u32 x.mg) := (hb2.cell (p := ⟨g, 2, none⟩) (World.block_lt_of_cell? _ _ m2)).trans m2
                have n0 : w2.cell? ⟨w.heap.size, 0, none⟩ = some (.int .u8 pc.toNat) := (hb2.cell (p := ⟨w.heap.size, 0, none⟩) (World.block_lt_of_cell? _ _ c0)).trans c0
                have n1 : w2.cell? ⟨w.heap.size, 1, none⟩ = some (.int .u8 pi.toNat) := (hb2.cell (p := ⟨w.heap.size, 1, none⟩) (World.block_lt_of_cell? _ _ c1)).trans c1
                have n3 : w2.cell? ⟨w.heap.size, 2, none⟩ = some (.string pd) := (hb2.cell (p := ⟨w.heap.size, 2, none⟩) (World.block_lt_of_cell? _ _ c2)).trans c2
                have H2 := Lib.hid (H.out.callee hb2)
                have HM2 := Lib.hid (HM.out.trans (Moves.of_below hb2) fun _ _ e => e)
                have lw2 : w.heap.size < w2.heap.size := Nat.lt_of_lt_of_le (by have := HSW.out; omega) hb2.size
                clear hb2
                have n5 : w2.cell? ⟨g, 5, none⟩ = some (.int .i64 x.n) := H2.out.c 5
                have n6 : w2.cell? ⟨g, 6, none⟩ = some (.int .i64 x.mi) := H2.out.c 6
                have f6 : w2.frozen? ⟨g, 6, none⟩ = false := H2.out.f 6
                go_wp2
                go_quiet (fail)
                go_wp2
                go_ret2
                exact routq_none ((RAt.drewN H2.out nq).setMi 0) ((HM2.out.drewN nq).trans (set1_moves _ g 6 (.int .i64 (0 : Nat))) fun _ _ e => e)
        · have E9 : Hid (efX x pc.toNat pi = x ∧ efL x pc.toNat pi (pd.extract 4 pd.size) = [] ∧ efE x pc.toNat pi = 0) := by rw [hc, e]; exact ⟨rfl, rfl, rfl⟩
          rw [E9.out.1, E9.out.2.1, E9.out.2.2]
          obtain rfl : b9 = true := by rw [← f9, hc, e]; rfl
          obtain rfl : b10 = true := by rw [← f10, hc, e]; rfl
          obtain rfl : b11 = false := by rw [← f11, hc, e]; rfl
          clear hb e hc hRz
          cases q1 <;> cases q2 <;> first | cases hq | skip
          all_goals
            go_enter Try.func17, Try.ntmps17
            go_wp2_with fail
            refine (HP.out _).mono ?_
            rintro e w2 ⟨rfl, hb2⟩
            have n2 : w2.cell? ⟨g, 2, none⟩ = some (.int .u32 x.mg) := (hb2.cell (p := ⟨g, 2, none⟩) (World.block_lt_of_cell? _ _ m2)).trans m2
            have n0 : w2.cell? ⟨w.heap.size, 0, none⟩ = some (.int .u8 pc.toNat) := (hb2.cell (p := ⟨w.heap.size, 0, none⟩) (World.block_lt_of_cell? _ _ c0)).trans c0
            have n1 : w2.cell? ⟨w.heap.size, 1, none⟩ = some (.int .u8 pi.toNat) := (hb2.cell (p := ⟨w.heap.size, 1, none⟩) (World.block_lt_of_cell? _ _ c1)).trans c1
            have n3 : w2.cell? ⟨w.heap.size, 2, none⟩ = some (.string pd) := (hb2.cell (p := ⟨w.heap.size, 2, none⟩) (World.block_lt_of_cell? _ _ c2)).trans c2
            have H2 := Lib.hid (H.out.callee hb2)
            have HM2 := Lib.hid (HM.out.trans (Moves.of_below hb2) fun _ _ e => e)
            have lw2 : w.heap.size < w2.heap.size := Nat.lt_of_lt_of_le (by have := HSW.out; omega) hb2.size
            clear hb2
            go_wp2
            go_ret2
            exact routq_none H2.out HM2.out
      · have e1 : pE x ⟨pc, pi, pd⟩ = 170 := by unfold pE; rw [if_neg (by show ¬ (pc.toNat ≠ 9 ∧ pc.toNat ≠ 10 ∧ pc.toNat ≠ 11); have := HC9.out; omega), if_neg hd, if_pos hl]
        obtain ⟨e2, e3⟩ := pe_none (x := x) (p := ⟨pc, pi, pd⟩) (by rw [e1]; decide)
        rw [e1, e2, e3]
        rw [hl] at hlb
        have hlb' := hlb.symm
        simp only [Bool.and_eq_true] at hlb'
        obtain ⟨q1, q2⟩ := hlb'
        rw [← extract_front] at q2
        clear e1 e2 e3 h8 h hc hc9 hlb hl HE
        generalize own x = Y at *
        unfold ptr
        cases b9 <;> cases b10 <;> cases b11 <;> first | cases hb | skip
        all_goals
          go_enter Try.func17, Try.ntmps17
          go_wp2_with fail
          refine (HP.out _).mono ?_
          rintro e w2 ⟨rfl, hb2⟩
          have n2 : w2.cell? ⟨g, 2, none⟩ = some (.int .u32 x.mg) := (hb2.cell (p := ⟨g, 2, none⟩) (World.block_lt_of_cell? _ _ m2)).trans m2
          have n3 : w2.cell? ⟨w.heap.size, 2, none⟩ = some (.string pd) := (hb2.cell (p := ⟨w.heap.size, 2, none⟩) (World.block_lt_of_cell? _ _ c2)).trans c2
          have H2 := Lib.hid (H.out.callee hb2)
          have HM2 := Lib.hid (HM.out.trans (Moves.of_below hb2) fun _ _ e => e)
          clear hb2
          go_wp2
          go_ret2
          exact routq_none H2.out HM2.out
end Go.Proofs.Ytimndcfhilcgfaa.Ech
