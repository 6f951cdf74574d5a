/- run: all that is on the way comes, in whatever order. Written by gen/neg_run.py. -/
import Derived.Test.YtpppggicihfbgaaGreatGNegF
import Derived.Test.YtpppggicihfbgaaGreatGNegIr
import Derived.Test.YtpppggicihfbgaaGreatGHeldX
import Derived.Test.YtpppggicihfbgaaGreatQuietS
import Derived.StillTailTactics
import Derived.Deep.CutRange
namespace Go.Proofs.YtpppggicihfbgaaGreat.Neg
open List (getElem_toArray getElem_cons_succ getElem_cons_zero setIfInBounds_toArray set_cons_zero set_cons_succ)
open Go.RowKit Go.Deep Go.Proofs.YtpppggicihfbgaaGreat.Oct Go.Proofs.YtpppggicihfbgaaGreat.Row Go.Proofs.YtpppggicihfbgaaGreat.Mem Go.Proofs.YtpppggicihfbgaaGreat.Opt Go.Proofs.YtpppggicihfbgaaGreat.Fsm

theorem take_drop {α : Type} (l : List α) (a b j : Nat) (hj : j ≤ a) (hab : a ≤ b) (hb : b ≤ l.length) : (l.take a).drop j ++ (l.drop a).take (b - a) = (l.take b).drop j := by
  have h1 : l.take b = l.take a ++ (l.drop a).take (b - a) := by
    rw [show b = a + (b - a) by omega, List.take_add]
    simp
  rw [h1, List.drop_append_of_le_length (by rw [List.length_take]; omega)]
theorem head_tail {α : Type} (l : List α) (a i : Nat) (hi : i < a) (ha : a ≤ l.length) : (l.take a).drop i = l[i]'(by omega) :: (l.take a).drop (i + 1) := by
  rw [List.drop_eq_getElem_cons (by rw [List.length_take]; omega), List.getElem_take]
set_option maxRecDepth 100000 in
theorem Tryz.infoPk : (Tryz.prog.info? 56).map (fun i => (i.zero, i.size, i.bytes)) = some (some (.agg #[.int .u8 0, .int .u8 0, .string ByteArray.empty]), 3, 24) := by kernel_rfl
def sentOf (gw : Nat) (w : World) : Nat := match w.cell? ⟨gw, 5, none⟩ with | some (.int .i64 z) => z.toNat | _ => 0
theorem sentOf_eq {gw : Nat} {w : World} {n : Nat} (h : w.cell? ⟨gw, 5, none⟩ = some (.int .i64 n)) : sentOf gw w = n := by simp [sentOf, h]
def RunR (K : Kd) (T : Net K) (w W : World) (gw : Nat) (x y : Ad) (i j : Nat) (vA vB : Value) : Prop :=
  i ≤ T.N ∧ j ≤ T.N ∧ i ≤ T.sB j ∧ j ≤ T.sA i ∧ Wi K w W gw x y (T.SA i) (T.SB j) vA vB ((T.OB.take (T.sB j)).drop i) ((T.OA.take (T.sA i)).drop j) (i + j)
theorem sA_le {K : Kd} (T : Net K) : ∀ i, i ≤ T.N → T.sA i ≤ T.N
  | 0, _ => by rw [T.a0]; exact T.hN.2
  | i + 1, h => (T.mA i (by omega)).2
theorem sB_le {K : Kd} (T : Net K) : ∀ i, i ≤ T.N → T.sB i ≤ T.N
  | 0, _ => by rw [T.b0]; exact T.hN.2
  | i + 1, h => (T.mB i (by omega)).2
set_option maxHeartbeats 16000000 in
set_option maxRecDepth 100000 in
theorem run_any {Kn : Kd} (T : Net Kn) {w : World} {gw : Nat} {x y : Ad} {vA0 vB0 : Value} {s0 : Nat} (A : Option Addr) (n c : Nat) (W : World) (h : Wi Kn w W gw x y (T.SA 0) (T.SB 0) vA0 vB0 (T.OB.take 1) (T.OA.take 1) s0)
    (hI : Ints w w.heap.size A n .u8) (hn : n ≤ 200) (h9A : (T.SA T.N).x.s = 9) (h9B : (T.SB T.N).x.s = 9) :
    Calls Tryz.prog 9 #[.pointer (some ⟨gw, 0, none⟩), .slice A n c, .int .i64 16] W fun e w' => e = .returned (.bool true) ∧ ∃ vA vB s, Wi Kn w w' gw x y (T.SA T.N) (T.SB T.N) vA vB [] [] s := by
  obtain ⟨i0, hi0, hz0, hz1, hz2⟩ := info_parts Tryz.infoPk
  have HI := Lib.hid hI
  have H0 : Hid (RunR Kn T w (W.setCell ⟨gw, 5, none⟩ (.int .i64 (0 : Nat))) gw x y 0 0 vA0 vB0) := by
    refine ⟨Nat.zero_le _, Nat.zero_le _, Nat.zero_le _, Nat.zero_le _, ?_⟩
    rw [T.a0, T.b0]
    exact h.setSent 0
  have f5 := h.cells.2.2.2.2.2.2.2
  have c5 := h.cells.2.2.2.2.1
  clear h hI
  go_enter Tryz.func9, Tryz.ntmps9
  go_wp2
  go_loopw [7] (fun u wr => ∃ (i j : Nat) (vA vB : Value), Hid (RunR Kn T w wr gw x y i j vA vB)) (fun _ wr => 16 - sentOf gw wr)
  case atStart => exact ⟨0, 0, vA0, vB0, H0⟩
  case round =>
    obtain ⟨i, j, vA, vB, HR⟩ := hrel
    obtain ⟨tA, htA⟩ : ∃ l, l = (T.OB.take (T.sB j)).drop i := ⟨_, rfl⟩
    obtain ⟨tB, htB⟩ : ∃ l, l = (T.OA.take (T.sA i)).drop j := ⟨_, rfl⟩
    obtain ⟨s, hs⟩ : ∃ s, s = i + j := ⟨_, rfl⟩
    have HW : Hid (Wi Kn w wr gw x y (T.SA i) (T.SB j) vA vB tA tB s) := by rw [htA, htB, hs]; exact HR.out.2.2.2.2
    obtain ⟨RA, cA, hvA⟩ := own_slice HW.out.rA
    obtain ⟨RB, cB, hvB⟩ := own_slice HW.out.rB
    obtain ⟨a, ha⟩ : ∃ a, tA.length = a := ⟨_, rfl⟩
    obtain ⟨b, hb⟩ : ∃ b, tB.length = b := ⟨_, rfl⟩
    rw [ha] at hvA
    rw [hb] at hvB
    subst hvA hvB
    have ha7 : a ≤ 7 := by rw [← ha, htA, List.length_drop, List.length_take, T.lB]; have := T.hN; omega
    have hb7 : b ≤ 7 := by rw [← hb, htB, List.length_drop, List.length_take, T.lA]; have := T.hN; omega
    have hs14 : s ≤ 14 := by have h1 := HR.out.1; have h2 := HR.out.2.1; have := T.hN; omega
    have HtA := Lib.hid htA
    have HtB := Lib.hid htB
    have Hs := Lib.hid hs
    have Ha := Lib.hid ha
    have Hb := Lib.hid hb
    clear htA htB hs ha hb
    obtain ⟨c0, c1, c2, c3, c5, f2, f3, f5⟩ := HW.out.cells
    have HC5 := Lib.hid c5
    have h16 : decide ((s : Int) < 16) = true := decide_eq_true (by omega)
    by_cases hz : a + b = 0
    · have hz1 : decide ((0 : Int) < (a : Int) + (b : Int)) = false := decide_eq_false (by omega)
      have hz2 : decide ((a : Int) + (b : Int) > 0) = false := decide_eq_false (by omega)
      go_wp2
      go_quiet (fail)
      as_aux_lemma =>
        have hN : i = T.N ∧ j = T.N := by
          have ea := Ha.out
          rw [HtA.out, List.length_drop, List.length_take, T.lB] at ea
          have eb := Hb.out
          rw [HtB.out, List.length_drop, List.length_take, T.lA] at eb
          have q1 := sB_le T j HR.out.2.1
          have q2 := sA_le T i HR.out.1
          have q3 := HR.out.2.2.1
          have q4 := HR.out.2.2.2.1
          exact T.live i j HR.out.1 HR.out.2.1 (by omega) (by omega)
        obtain ⟨rfl, rfl⟩ := hN
        have ha0 : a = 0 := by omega
        have hb0 : b = 0 := by omega
        subst ha0 hb0
        obtain rfl : tA = [] := List.eq_nil_of_length_eq_zero Ha.out
        obtain rfl : tB = [] := List.eq_nil_of_length_eq_zero Hb.out
        have HWq := Lib.hid (HW.out.drewN nq)
        have t0 : ∀ z : HeldW (fun w' => Wi Kn w w' gw x y (T.SA T.N) (T.SB T.N) (.slice RA 0 cA) (.slice RB 0 cB) [] [] s), z.w.cell? ⟨gw, 0, none⟩ = some (.pointer (some ⟨x.g, 0, none⟩)) := fun z => z.h.cells.1
        have t1 : ∀ z : HeldW (fun w' => Wi Kn w w' gw x y (T.SA T.N) (T.SB T.N) (.slice RA 0 cA) (.slice RB 0 cB) [] [] s), z.w.cell? ⟨gw, 1, none⟩ = some (.pointer (some ⟨y.g, 0, none⟩)) := fun z => z.h.cells.2.1
        have t2 : ∀ z : HeldW (fun w' => Wi Kn w w' gw x y (T.SA T.N) (T.SB T.N) (.slice RA 0 cA) (.slice RB 0 cB) [] [] s), z.w.cell? ⟨gw, 2, none⟩ = some (.slice RA 0 cA) := fun z => z.h.cells.2.2.1
        have t3 : ∀ z : HeldW (fun w' => Wi Kn w w' gw x y (T.SA T.N) (T.SB T.N) (.slice RA 0 cA) (.slice RB 0 cB) [] [] s), z.w.cell? ⟨gw, 3, none⟩ = some (.slice RB 0 cB) := fun z => z.h.cells.2.2.2.1
        have HS : Hid (∀ (z : HeldW (fun w' => Wi Kn w w' gw x y (T.SA T.N) (T.SB T.N) (.slice RA 0 cA) (.slice RB 0 cB) [] [] s)) (g : Nat), (g = x.g ∨ g = y.g) → Calls Tryz.prog 22 #[.pointer (some ⟨g, 0, none⟩)] z.w fun e w' => e = .returned (.int .u8 9) ∧ Wi Kn w w' gw x y (T.SA T.N) (T.SB T.N) (.slice RA 0 cA) (.slice RB 0 cB) [] [] s) := fun z g hg => by
          rcases hg with rfl | rfl
          · exact (side_state Kn _ _ _ _ _ z.h.sa).mono fun e w' ⟨he, hw⟩ => ⟨by rw [he, h9A]; rfl, hw ▸ z.h⟩
          · exact (side_state Kn _ _ _ _ _ z.h.sb).mono fun e w' ⟨he, hw⟩ => ⟨by rw [he, h9B]; rfl, hw ▸ z.h⟩
        go_upto_region 12 with (fail)
        have hne : Nonempty (HeldW (fun w' => Wi Kn w w' gw x y (T.SA T.N) (T.SB T.N) (.slice RA 0 cA) (.slice RB 0 cB) [] [] s)) := ⟨⟨_, HWq.out.drew⟩⟩
        refine wp_region_quiet_shut (fun w' => Wi Kn w w' gw x y (T.SA T.N) (T.SB T.N) (.slice RA 0 cA) (.slice RB 0 cB) [] [] s) (by kernel_rfl) (by kernel_rfl) HWq.out.drew (fun G hst hnil => ?_)
        repeat (
          refine hst.out _ _ _ (fun K hK => ?_)
          go_simp
          first
            | (refine hK _ ?_; clear hK K)
            | (apply Exists.intro
               refine ⟨fun _ => ?_, hK _ ?_⟩
               (first
                 | (go_at_call 22; exact held_of (HS.out _ _ (by first | exact .inl rfl | exact .inr rfl))))
               clear hK K))
        refine hnil.out _ (fun q => ?_)
        clear hnil hst
        have HE := Lib.hid q.h
        go_wp2
        go_ret
        exact ⟨rfl, _, _, _, HE.out⟩
    · have hz1 : decide ((0 : Int) < (a : Int) + (b : Int)) = true := decide_eq_true (by omega)
      have hz2 : decide ((a : Int) + (b : Int) > 0) = true := decide_eq_true (by omega)
      go_wp2
      go_quiet (fail)
      go_upto_region 5 with (fail)
      go_cut [7, 77] from 15 to 147 (fun _ u wx => ∃ bb : Bool, u = .bool bb ∧ (bb = true → 0 < a) ∧ (bb = false → 0 < b) ∧ Hid (Wi Kn w wx gw x y (T.SA i) (T.SB j) (.slice RA a cA) (.slice RB b cB) tA tB s))
      case first =>
        as_aux_lemma =>
          have HWq := Lib.hid (HW.out.drewN nq)
          by_cases hfb : 0 < b
          · have hf1 : decide ((b : Int) > 0) = true := decide_eq_true (by omega)
            have hf2 : decide ((0 : Int) < (b : Int)) = true := decide_eq_true (by omega)
            by_cases h1 : (s : Int) < (n : Int)
            · obtain ⟨ad, z, rfl, hB, hc, hzw⟩ := HI.out s (by omega)
              have hbz := bounds_u8 hzw
              have hcs : (wr.drewN nq).cell? (ad.add s) = some (.int .u8 z) := (HWq.out.hb.cell (by rw [Oct.block_add]; exact hB)).trans hc
              have hs0 : (0 : Int) ≤ (s : Int) := Int.natCast_nonneg s
              have h1' : decide ((s : Int) < (n : Int)) = true := decide_eq_true h1
              by_cases h2 : z % 2 = 1
              · have h2' : (z % 2 == 1) = true := by rw [h2]; rfl
                by_cases h3 : 0 < a
                · have h3' : decide ((a : Int) > 0) = true := decide_eq_true (by omega)
                  have h3'' : decide ((0 : Int) < (a : Int)) = true := decide_eq_true (by omega)
                  go_wp2
                  go_meet
                  exact ⟨true, rfl, fun _ => h3, (fun e => by cases e), HWq⟩
                · have h3' : decide ((a : Int) > 0) = false := decide_eq_false (by omega)
                  have h3'' : decide ((0 : Int) < (a : Int)) = false := decide_eq_false (by omega)
                  go_wp2
                  go_meet
                  exact ⟨false, rfl, (fun e => by cases e), fun _ => hfb, HWq⟩
              · have h2' : (z % 2 == 1) = false := by rw [beq_eq_false_iff_ne]; exact h2
                go_wp2
                go_meet
                exact ⟨false, rfl, (fun e => by cases e), fun _ => hfb, HWq⟩
            · have h1' : decide ((s : Int) < (n : Int)) = false := decide_eq_false h1
              go_wp2
              go_meet
              exact ⟨false, rfl, (fun e => by cases e), fun _ => hfb, HWq⟩
          · have hf1 : decide ((b : Int) > 0) = false := decide_eq_false (by omega)
            have hf2 : decide ((0 : Int) < (b : Int)) = false := decide_eq_false (by omega)
            have h3 : 0 < a := by omega
            have h3' : decide ((a : Int) > 0) = true := decide_eq_true (by omega)
            have h3'' : decide ((0 : Int) < (a : Int)) = true := decide_eq_true (by omega)
            by_cases h1 : (s : Int) < (n : Int)
            · obtain ⟨ad, z, rfl, hB, hc, hzw⟩ := HI.out s (by omega)
              have hbz := bounds_u8 hzw
              have hcs : (wr.drewN nq).cell? (ad.add s) = some (.int .u8 z) := (HWq.out.hb.cell (by rw [Oct.block_add]; exact hB)).trans hc
              have hs0 : (0 : Int) ≤ (s : Int) := Int.natCast_nonneg s
              have h1' : decide ((s : Int) < (n : Int)) = true := decide_eq_true h1
              by_cases h2 : z % 2 = 1
              · have h2' : (z % 2 == 1) = true := by rw [h2]; rfl
                go_wp2
                go_meet
                exact ⟨true, rfl, fun _ => h3, (fun e => by cases e), HWq⟩
              · have h2' : (z % 2 == 1) = false := by rw [beq_eq_false_iff_ne]; exact h2
                go_wp2
                go_meet
                exact ⟨true, rfl, fun _ => h3, (fun e => by cases e), HWq⟩
            · have h1' : decide ((s : Int) < (n : Int)) = false := decide_eq_false h1
              go_wp2
              go_meet
              exact ⟨true, rfl, fun _ => h3, (fun e => by cases e), HWq⟩
      case rest =>
        obtain ⟨bb, rfl, hbA, hbB, HW⟩ := hcut
        clear c0 c1 c2 c3 c5 f2 f3 f5 h16 hz hz1 hz2
        obtain ⟨c0, c1, c2, c3, c5, f2, f3, f5⟩ := HW.out.cells
        cases bb
        · clear hbA
          as_aux_lemma =>
            have hpos : 0 < b := hbB rfl
            have hij : j < T.sA i := by
              rcases Nat.lt_or_ge j (T.sA i) with h | h
              · exact h
              · exfalso
                have h2 := Hb.out
                rw [HtB.out, List.length_drop, List.length_take] at h2
                omega
            have hs1 : T.sA i ≤ T.OA.length := by rw [T.lA]; exact sA_le T i HR.out.1
            have HtA2 : Hid (tB = T.OA[j]'(by omega) :: (T.OA.take (T.sA i)).drop (j + 1)) := HtB.out.trans (head_tail T.OA (T.sA i) j hij hs1)
            have hiN : j < T.N := by have := T.lA; omega
            have HG := Lib.hid (T.hB j (by rw [T.lA]; exact hiN))
            obtain ⟨p, hp⟩ : ∃ p, p = T.OA[j]'(by omega) := ⟨_, rfl⟩
            obtain ⟨l, hl⟩ : ∃ l, l = (T.OB.drop (T.sB j)).take (T.sB (j + 1) - T.sB j) := ⟨_, rfl⟩
            have hll : l.length ≤ 7 := by rw [hl, List.length_take, List.length_drop, T.lB]; have := T.hN; omega
            have HB2 : Hid (tA ++ l = (T.OB.take (T.sB (j + 1))).drop i) := by
              show _ = _
              rw [HtA.out, hl]
              have hm := T.mB j hiN
              exact take_drop _ _ _ _ HR.out.2.2.1 hm.1 (by rw [T.lB]; exact hm.2)
            obtain ⟨tl, htl⟩ : ∃ tl, tl = (T.OA.take (T.sA i)).drop (j + 1) := ⟨_, rfl⟩
            rw [← hp, ← htl] at HtA2
            rw [← hp, ← hl] at HG
            have Htl := Lib.hid htl
            have Hll := Lib.hid hll
            have hlt : tl.length + 1 = b := by
              have h2 := Hb.out
              rw [HtA2.out] at h2
              exact h2
            have HIJ := Lib.hid hij
            clear hp hl htl hll hij hs1
            obtain ⟨L, hL⟩ : ∃ L, l.length = L := ⟨_, rfl⟩
            have HL := Lib.hid hL
            have hL7 : L ≤ 7 := by rw [← hL]; exact Hll.out
            clear hL
            have HPk : Hid (∀ W' (sa' sb' : Sd Kn), Wi Kn w W' gw x y sa' sb' (.slice RA a cA) (.slice RB b cB) tA tB s → Pks W' RB (p :: tl)) := by
              intro W' sa' sb' hw
              have h2 := hw.rB
              rw [Hb.out] at h2
              have h3 : W'.ownsRow w.heap.size 56 3 (.slice RB (p :: tl).length cB) (p :: tl).length (pksV (p :: tl)) := by
                rw [← HtA2.out, Hb.out]; exact h2
              exact pks_own h3
            obtain ⟨ad, hadr, _, _⟩ := HPk.out _ _ _ HW.out (by simp)
            subst hadr
            have HPd : Hid (∀ W', Wi Kn w W' gw x y (T.SA i) (T.SB j) (.slice RA a cA) (.slice (some ad) b cB) tA tB s → W'.cell? ad = some (.int .u8 p.c.toNat) ∧ W'.cell? ⟨ad.block, ad.off + 1, none⟩ = some (.int .u8 p.i.toNat) ∧ W'.cell? ⟨ad.block, ad.off + 2, none⟩ = some (.string p.d)) := by
              intro W' h
              have h2 := h.rB
              rw [Hb.out] at h2
              have h3 : W'.ownsRow w.heap.size 56 3 (.slice (some ad) (p :: tl).length cB) (p :: tl).length (pksV (p :: tl)) := by
                rw [← HtA2.out, Hb.out]; exact h2
              obtain ⟨ad', p', e1, e2, d0, d1, d2⟩ := (pks_own h3).at_ (k := 0) (Nat.succ_pos _)
              cases e1
              cases e2
              rw [Nat.zero_mul, show ad.add 0 = ad from by unfold Addr.add; simp] at d0 d1 d2
              exact ⟨d0, d1, d2⟩
            have hn1 : (0 : Int) < (b : Int) := by omega
            go_upto_region 9 with (fail)
            go_cut [10] from 15 to 147 (fun u wx => ∃ (gX : Nat) (RR : Option Addr) (rr : Nat) (TT PP : Int) (bb : Bool), u = .pointer (some ⟨gX, 0, none⟩) ∧ Hid (Wi Kn w wx gw x y (T.SA i) (T.SB (j + 1)) (.slice RA a cA) (.slice (some ad) b cB) tA tB s) ∧ Hid (Blk wx gX [.slice RR L rr, .int .u16 TT, .int .u16 PP, .bool bb] 51) ∧ Hid (gX ≠ gw) ∧ Hid (∀ ad', RR = some ad' → ¬ ad'.block = gw) ∧ Hid (Pks wx RR l) ∧ Hid (RR = none → rr = 0))
            case first =>
              as_aux_lemma =>
                have hHeld : Wi Kn w wc.drew gw x y (T.SA i) (T.SB j) (.slice RA a cA) (.slice (some ad) b cB) tA tB s := HW.out.drew
                refine wp_region_t 12 (fun w' => Wi Kn w w' gw x y (T.SA i) (T.SB j) (.slice RA a cA) (.slice (some ad) b cB) tA tB s) (fun w' => Wi Kn w w' gw x y (T.SA i) (T.SB (j + 1)) (.slice RA a cA) (.slice (some ad) b cB) tA tB s) (by kernel_rfl) (fun hSh => ?_)
                refine wpAnyT_take (i := 0) (n := 80) (v := ?vv0_1) (fun w' => Wi Kn w w' gw x y (T.SA i) (T.SB j) (.slice RA a cA) (.slice (some ad) b cB) tA tB s) rfl (by kernel_rfl) (by kernel_rfl) (by kernel_rfl) (fun _ _ _ h => h) ⟨by decide, .inr ⟨by kernel_rfl, by kernel_rfl, rfl⟩⟩ hSh (Or.inl ⟨by rfl, ?yy0_1⟩) (by assumption) ?rr0_1
                case yy0_1 => (intro w hSw; (skip); (try simp only [getElem_toArray, getElem_cons_succ, getElem_cons_zero, Act.put, setIfInBounds_toArray, set_cons_zero, set_cons_succ]); go_simp; (try (with_reducible rfl)))
                clear hSh; intro hSh
                try simp only [getElem_toArray, getElem_cons_succ, getElem_cons_zero, Act.put, setIfInBounds_toArray, set_cons_zero, set_cons_succ]
                refine wpAnyT_take (i := 1) (n := 80) (v := ?vv1_2) (fun w' => Wi Kn w w' gw x y (T.SA i) (T.SB j) (.slice RA a cA) (.slice (some ad) b cB) tA tB s) rfl (by kernel_rfl) (by kernel_rfl) (by kernel_rfl) (fun _ _ _ h => h) ⟨by decide, .inr ⟨by kernel_rfl, by kernel_rfl, rfl⟩⟩ hSh (Or.inl ⟨by rfl, ?yy1_2⟩) (by assumption) ?rr1_2
                case yy1_2 => (intro w hSw; (skip); (try simp only [getElem_toArray, getElem_cons_succ, getElem_cons_zero, Act.put, setIfInBounds_toArray, set_cons_zero, set_cons_succ]); go_simp; (try (with_reducible rfl)))
                clear hSh; intro hSh
                try simp only [getElem_toArray, getElem_cons_succ, getElem_cons_zero, Act.put, setIfInBounds_toArray, set_cons_zero, set_cons_succ]
                refine wpAnyT_take (i := 2) (n := 80) (v := ?vv2_3) (fun w' => Wi Kn w w' gw x y (T.SA i) (T.SB j) (.slice RA a cA) (.slice (some ad) b cB) tA tB s) rfl (by kernel_rfl) (by kernel_rfl) (by kernel_rfl) (fun _ _ _ h => h) ⟨by decide, .inr ⟨by kernel_rfl, by kernel_rfl, rfl⟩⟩ hSh (Or.inl ⟨by rfl, ?yy2_3⟩) (by assumption) ?rr2_3
                case yy2_3 => (intro w hSw; (skip); (try simp only [getElem_toArray, getElem_cons_succ, getElem_cons_zero, Act.put, setIfInBounds_toArray, set_cons_zero, set_cons_succ]); go_simp; (try (with_reducible rfl)))
                clear hSh; intro hSh
                try simp only [getElem_toArray, getElem_cons_succ, getElem_cons_zero, Act.put, setIfInBounds_toArray, set_cons_zero, set_cons_succ]
                refine wpAnyT_take (i := 3) (n := 80) (v := ?vv3_4) (fun w' => Wi Kn w w' gw x y (T.SA i) (T.SB j) (.slice RA a cA) (.slice (some ad) b cB) tA tB s) rfl (by kernel_rfl) (by kernel_rfl) (by kernel_rfl) (fun _ _ _ h => h) ⟨by decide, .inr ⟨by kernel_rfl, by kernel_rfl, rfl⟩⟩ hSh (Or.inl ⟨by rfl, ?yy3_4⟩) (by assumption) ?rr3_4
                case yy3_4 => (intro w hSw; (obtain ⟨c0, c1, c2, c3, c5, f2, f3, f5⟩ := hSw.cells; unfold ptr at c0 c1); (try simp only [getElem_toArray, getElem_cons_succ, getElem_cons_zero, Act.put, setIfInBounds_toArray, set_cons_zero, set_cons_succ]); go_simp; (try (with_reducible rfl)))
                clear hSh; intro hSh
                try simp only [getElem_toArray, getElem_cons_succ, getElem_cons_zero, Act.put, setIfInBounds_toArray, set_cons_zero, set_cons_succ]
                refine wpAnyT_take (i := 4) (n := 80) (v := ?vv4_5) (fun w' => Wi Kn w w' gw x y (T.SA i) (T.SB j) (.slice RA a cA) (.slice (some ad) b cB) tA tB s) rfl (by kernel_rfl) (by kernel_rfl) (by kernel_rfl) (fun _ _ _ h => h) ⟨by decide, .inr ⟨by kernel_rfl, by kernel_rfl, rfl⟩⟩ hSh (Or.inl ⟨by rfl, ?yy4_5⟩) (by assumption) ?rr4_5
                case yy4_5 => (intro w hSw; (skip); (try simp only [getElem_toArray, getElem_cons_succ, getElem_cons_zero, Act.put, setIfInBounds_toArray, set_cons_zero, set_cons_succ]); go_simp; (try (with_reducible rfl)))
                clear hSh; intro hSh
                try simp only [getElem_toArray, getElem_cons_succ, getElem_cons_zero, Act.put, setIfInBounds_toArray, set_cons_zero, set_cons_succ]
                refine wpAnyT_take (i := 5) (n := 80) (v := ?vv5_6) (fun w' => Wi Kn w w' gw x y (T.SA i) (T.SB j) (.slice RA a cA) (.slice (some ad) b cB) tA tB s) rfl (by kernel_rfl) (by kernel_rfl) (by kernel_rfl) (fun _ _ _ h => h) ⟨by decide, .inr ⟨by kernel_rfl, by kernel_rfl, rfl⟩⟩ hSh (Or.inl ⟨by rfl, ?yy5_6⟩) (by assumption) ?rr5_6
                case yy5_6 => (intro w hSw; (skip); (try simp only [getElem_toArray, getElem_cons_succ, getElem_cons_zero, Act.put, setIfInBounds_toArray, set_cons_zero, set_cons_succ]); go_simp; (try (with_reducible rfl)))
                clear hSh; intro hSh
                try simp only [getElem_toArray, getElem_cons_succ, getElem_cons_zero, Act.put, setIfInBounds_toArray, set_cons_zero, set_cons_succ]
                refine wpAnyT_take (i := 6) (n := 80) (v := ?vv6_7) (fun w' => Wi Kn w w' gw x y (T.SA i) (T.SB j) (.slice RA a cA) (.slice (some ad) b cB) tA tB s) rfl (by kernel_rfl) (by kernel_rfl) (by kernel_rfl) (fun _ _ _ h => h) ⟨by decide, .inr ⟨by kernel_rfl, by kernel_rfl, rfl⟩⟩ hSh (Or.inl ⟨by rfl, ?yy6_7⟩) (by assumption) ?rr6_7
                case yy6_7 => (intro w hSw; (skip); (try simp only [getElem_toArray, getElem_cons_succ, getElem_cons_zero, Act.put, setIfInBounds_toArray, set_cons_zero, set_cons_succ]); go_simp; (try (with_reducible rfl)))
                clear hSh; intro hSh
                try simp only [getElem_toArray, getElem_cons_succ, getElem_cons_zero, Act.put, setIfInBounds_toArray, set_cons_zero, set_cons_succ]
                refine wpAnyT_take (i := 7) (n := 80) (v := ?vv7_8) (fun w' => Wi Kn w w' gw x y (T.SA i) (T.SB j) (.slice RA a cA) (.slice (some ad) b cB) tA tB s) rfl (by kernel_rfl) (by kernel_rfl) (by kernel_rfl) (fun _ _ _ h => h) ⟨by decide, .inr ⟨by kernel_rfl, by kernel_rfl, rfl⟩⟩ hSh (Or.inl ⟨by rfl, ?yy7_8⟩) (by assumption) ?rr7_8
                case yy7_8 => (intro w hSw; (obtain ⟨c0, c1, c2, c3, c5, f2, f3, f5⟩ := hSw.cells); (try simp only [getElem_toArray, getElem_cons_succ, getElem_cons_zero, Act.put, setIfInBounds_toArray, set_cons_zero, set_cons_succ]); go_simp; (try (with_reducible rfl)))
                clear hSh; intro hSh
                try simp only [getElem_toArray, getElem_cons_succ, getElem_cons_zero, Act.put, setIfInBounds_toArray, set_cons_zero, set_cons_succ]
                refine wpAnyT_take (i := 8) (n := 80) (v := ?vv8_9) (fun w' => Wi Kn w w' gw x y (T.SA i) (T.SB j) (.slice RA a cA) (.slice (some ad) b cB) tA tB s) rfl (by kernel_rfl) (by kernel_rfl) (by kernel_rfl) (fun _ _ _ h => h) ⟨by decide, .inr ⟨by kernel_rfl, by kernel_rfl, rfl⟩⟩ hSh (Or.inl ⟨by rfl, ?yy8_9⟩) (by assumption) ?rr8_9
                case yy8_9 => (intro w hSw; (skip); (try simp only [getElem_toArray, getElem_cons_succ, getElem_cons_zero, Act.put, setIfInBounds_toArray, set_cons_zero, set_cons_succ]); go_simp; (try (with_reducible rfl)))
                clear hSh; intro hSh
                try simp only [getElem_toArray, getElem_cons_succ, getElem_cons_zero, Act.put, setIfInBounds_toArray, set_cons_zero, set_cons_succ]
                refine wpAnyT_take (i := 9) (n := 80) (v := ?vv9_10) (fun w' => Wi Kn w w' gw x y (T.SA i) (T.SB j) (.slice RA a cA) (.slice (some ad) b cB) tA tB s) rfl (by kernel_rfl) (by kernel_rfl) (by kernel_rfl) (fun _ _ _ h => h) ⟨by decide, .inr ⟨by kernel_rfl, by kernel_rfl, rfl⟩⟩ hSh (Or.inl ⟨by rfl, ?yy9_10⟩) (by assumption) ?rr9_10
                case yy9_10 => (intro w hSw; (obtain ⟨d0, d1, d2⟩ := HPd.out _ hSw); (try simp only [getElem_toArray, getElem_cons_succ, getElem_cons_zero, Act.put, setIfInBounds_toArray, set_cons_zero, set_cons_succ]); go_simp; (try (with_reducible rfl)))
                clear hSh; intro hSh
                try simp only [getElem_toArray, getElem_cons_succ, getElem_cons_zero, Act.put, setIfInBounds_toArray, set_cons_zero, set_cons_succ]
                refine wpAnyT_take (i := 10) (n := 80) (v := ?vv10_11) (fun w' => Wi Kn w w' gw x y (T.SA i) (T.SB j) (.slice RA a cA) (.slice (some ad) b cB) tA tB s) rfl (by kernel_rfl) (by kernel_rfl) (by kernel_rfl) (fun _ _ _ h => h) ⟨by decide, .inr ⟨by kernel_rfl, by kernel_rfl, rfl⟩⟩ hSh (Or.inl ⟨by rfl, ?yy10_11⟩) (by assumption) ?rr10_11
                case yy10_11 => (intro w hSw; (skip); (try simp only [getElem_toArray, getElem_cons_succ, getElem_cons_zero, Act.put, setIfInBounds_toArray, set_cons_zero, set_cons_succ]); go_simp; (try (with_reducible rfl)))
                clear hSh; intro hSh
                try simp only [getElem_toArray, getElem_cons_succ, getElem_cons_zero, Act.put, setIfInBounds_toArray, set_cons_zero, set_cons_succ]
                refine wpAnyT_ready (rs := [11, 16]) (by kernel_rfl) (by simp) ?_
                refine AllReadyT.cons (o := _) (fun w' => Wi Kn w w' gw x y (T.SA i) (T.SB j) (.slice RA a cA) (.slice (some ad) b cB) tA tB s) (fun _ => cond_ahead (by kernel_rfl)) (by kernel_rfl) hSh rfl (fun K hK => ?_) (AllReadyT.cons (o := _) (fun w' => Wi Kn w w' gw x y (T.SA i) (T.SB j) (.slice RA a cA) (.slice (some ad) b cB) tA tB s) (fun _ => cond_ahead (by kernel_rfl)) (by kernel_rfl) hSh rfl (fun K hK => ?_) AllReadyT.nil)
                · try simp only [getElem_toArray, getElem_cons_succ, getElem_cons_zero, Act.put, setIfInBounds_toArray, set_cons_zero, set_cons_succ]
                  go_simp
                  refine (next_any hHeld).mono ?_
                  rintro e y1 ⟨d, rfl, h1, hm1⟩
                  clear hSh
                  refine hK.out _ _ h1 (fun _ hSh => ?_)
                  clear hK K
                  try simp only [getElem_toArray, getElem_cons_succ, getElem_cons_zero, Act.put, setIfInBounds_toArray, set_cons_zero, set_cons_succ]
                  refine wpAnyT_ready (rs := [12, 16]) (by kernel_rfl) (by simp) ?_
                  refine AllReadyT.cons (o := _) (fun w' => Wi Kn w w' gw x y (T.SA i) (T.SB (j + 1)) (.slice RA a cA) (.slice (some ad) b cB) tA tB s) (fun _ => cond_at (by kernel_rfl)) (by kernel_rfl) hSh rfl (fun K hK => ?_) (AllReadyT.cons (o := _) (fun w' => Wi Kn w w' gw x y (T.SA i) (T.SB j) (.slice RA a cA) (.slice (some ad) b cB) tA tB s) (fun _ => cond_ahead (by kernel_rfl)) (by kernel_rfl) hSh rfl (fun K hK => ?_) AllReadyT.nil)
                  · try simp only [getElem_toArray, getElem_cons_succ, getElem_cons_zero, Act.put, setIfInBounds_toArray, set_cons_zero, set_cons_succ]
                    go_simp
                    refine (HG.out d _ _ _ _ h1.sb).mono ?_
                    rintro e y2 ⟨TT, PP, bb, RR, rr, rfl, hrow2, hs2, hm2⟩
                    have h2 : Wi Kn w y2 gw x y (T.SA i) (T.SB (j + 1)) (.slice RA a cA) (.slice (some ad) b cB) tA tB s := h1.turnB hs2 hm2
                    rw [HL.out]
                    clear hSh
                    refine hK.out _ _ h2 (fun _ hSh => ?_)
                    clear hK K
                    try simp only [getElem_toArray, getElem_cons_succ, getElem_cons_zero, Act.put, setIfInBounds_toArray, set_cons_zero, set_cons_succ]
                    refine wpAnyT_take (i := 13) (n := 80) (v := ?vv13_12) (fun w' => Wi Kn w w' gw x y (T.SA i) (T.SB (j + 1)) (.slice RA a cA) (.slice (some ad) b cB) tA tB s) rfl (by kernel_rfl) (by kernel_rfl) (by kernel_rfl) (fun _ _ _ h => h) ⟨by decide, .inl ⟨by kernel_rfl, rfl⟩⟩ hSh (Or.inl ⟨by rfl, ?yy13_12⟩) (by assumption) ?rr13_12
                    case yy13_12 => (intro w hSw; (skip); (try simp only [getElem_toArray, getElem_cons_succ, getElem_cons_zero, Act.put, setIfInBounds_toArray, set_cons_zero, set_cons_succ]); go_simp; (try (with_reducible rfl)))
                    clear hSh; intro hSh
                    try simp only [getElem_toArray, getElem_cons_succ, getElem_cons_zero, Act.put, setIfInBounds_toArray, set_cons_zero, set_cons_succ]
                    refine wpAnyT_take (i := 14) (n := 80) (v := ?vv14_13) (fun w' => Wi Kn w w' gw x y (T.SA i) (T.SB (j + 1)) (.slice RA a cA) (.slice (some ad) b cB) tA tB s) rfl (by kernel_rfl) (by kernel_rfl) (by kernel_rfl) (fun _ _ _ h => h) ⟨by decide, .inl ⟨by kernel_rfl, rfl⟩⟩ hSh (Or.inl ⟨by rfl, ?yy14_13⟩) (by assumption) ?rr14_13
                    case yy14_13 => (intro w hSw; (skip); (try simp only [getElem_toArray, getElem_cons_succ, getElem_cons_zero, Act.put, setIfInBounds_toArray, set_cons_zero, set_cons_succ]); go_simp; (try (with_reducible rfl)))
                    clear hSh; intro hSh
                    try simp only [getElem_toArray, getElem_cons_succ, getElem_cons_zero, Act.put, setIfInBounds_toArray, set_cons_zero, set_cons_succ]
                    refine wpAnyT_take (i := 15) (n := 80) (v := ?vv15_14) (fun w' => Wi Kn w w' gw x y (T.SA i) (T.SB (j + 1)) (.slice RA a cA) (.slice (some ad) b cB) tA tB s) rfl (by kernel_rfl) (by kernel_rfl) (by kernel_rfl) (fun _ _ _ h => h) ⟨by decide, .inl ⟨by kernel_rfl, rfl⟩⟩ hSh (Or.inl ⟨by rfl, ?yy15_14⟩) (by assumption) ?rr15_14
                    case yy15_14 => (intro w hSw; (skip); (try simp only [getElem_toArray, getElem_cons_succ, getElem_cons_zero, Act.put, setIfInBounds_toArray, set_cons_zero, set_cons_succ]); go_simp; (try (with_reducible rfl)))
                    clear hSh; intro hSh
                    try simp only [getElem_toArray, getElem_cons_succ, getElem_cons_zero, Act.put, setIfInBounds_toArray, set_cons_zero, set_cons_succ]
                    refine wpAnyT_ready (rs := [16]) (by kernel_rfl) (by simp) ?_
                    refine AllReadyT.cons (o := _) (fun w' => Wi Kn w w' gw x y (T.SA i) (T.SB (j + 1)) (.slice RA a cA) (.slice (some ad) b cB) tA tB s) (fun _ => cond_at (by kernel_rfl)) (by kernel_rfl) hSh rfl (fun K hK => ?_) AllReadyT.nil
                    try simp only [getElem_toArray, getElem_cons_succ, getElem_cons_zero, Act.put, setIfInBounds_toArray, set_cons_zero, set_cons_succ]
                    go_simp
                    clear hSh
                    refine hK.out _ _ (h2.alloc _) (fun _ hSh => ?_)
                    clear hK K
                    try simp only [getElem_toArray, getElem_cons_succ, getElem_cons_zero, Act.put, setIfInBounds_toArray, set_cons_zero, set_cons_succ]
                    refine wpAnyT_ready (rs := [17]) (by kernel_rfl) (by simp) ?_
                    refine AllReadyT.cons (o := _) (fun w' => Wi Kn w w' gw x y (T.SA i) (T.SB (j + 1)) (.slice RA a cA) (.slice (some ad) b cB) tA tB s) (fun _ => cond_at (by kernel_rfl)) (by kernel_rfl) hSh rfl (fun K hK => ?_) AllReadyT.nil
                    try simp only [getElem_toArray, getElem_cons_succ, getElem_cons_zero, Act.put, setIfInBounds_toArray, set_cons_zero, set_cons_succ]
                    go_simp
                    clear hSh
                    refine hK.out _ _ (h2.alloc _) (fun _ hSh => ?_)
                    clear hK K
                    try simp only [getElem_toArray, getElem_cons_succ, getElem_cons_zero, Act.put, setIfInBounds_toArray, set_cons_zero, set_cons_succ]
                    refine wpAnyT_take (i := 18) (n := 80) (v := ?vv18_15) (fun w' => Wi Kn w w' gw x y (T.SA i) (T.SB (j + 1)) (.slice RA a cA) (.slice (some ad) b cB) tA tB s) rfl (by kernel_rfl) (by kernel_rfl) (by kernel_rfl) (fun _ _ _ h => h) ⟨by decide, .inl ⟨by kernel_rfl, rfl⟩⟩ hSh (Or.inl ⟨by rfl, ?yy18_15⟩) (by assumption) ?rr18_15
                    case yy18_15 => (intro w hSw; (skip); (try simp only [getElem_toArray, getElem_cons_succ, getElem_cons_zero, Act.put, setIfInBounds_toArray, set_cons_zero, set_cons_succ]); go_simp; (try (with_reducible rfl)))
                    clear hSh; intro hSh
                    try simp only [getElem_toArray, getElem_cons_succ, getElem_cons_zero, Act.put, setIfInBounds_toArray, set_cons_zero, set_cons_succ]
                    refine wpAnyT_done (by kernel_rfl) ?_ _
                    go_wp2
                    go_meet
                    refine ⟨_, RR, rr, TT, PP, bb, rfl, h2.alloc _, blk_new y2 [.slice RR L rr, .int .u16 TT, .int .u16 PP, .bool bb] _, ?_, ?_, ?_, ?_⟩
                    · show _ ≠ _; have := h2.lt; omega
                    · intro ad' e1 e2; have h5 := (hrow2.lt ad'.block (by rw [e1]; rfl)).1; have h6 := h1.lt; omega
                    · exact (pks_own hrow2).below ((Below.refl _ y2).alloc (Nat.le_refl _) _)
                    · exact own_none hrow2
                  · try simp only [getElem_toArray, getElem_cons_succ, getElem_cons_zero, Act.put, setIfInBounds_toArray, set_cons_zero, set_cons_succ]
                    go_simp
                    have HFr := Lib.hid h1.frs
                    have h2 := h1.alloc (.cells #[.slice none 0 0, .int .u16 0, .int .u16 0, .bool false] 51)
                    have hB2 := blk_new y1 [.slice none 0 0, .int .u16 0, .int .u16 0, .bool false] 51
                    obtain ⟨y2, hy2⟩ : ∃ y2, y1.alloc (.cells #[.slice none 0 0, .int .u16 0, .int .u16 0, .bool false] 51) = y2 := ⟨_, rfl⟩
                    have hgx : y1.heap.size < y2.heap.size := by rw [← hy2, World.size_alloc]; exact Nat.lt_succ_self _
                    rw [hy2] at h2 hB2 ⊢
                    have hgw := h1.lt
                    have hxo := h1.sb.old
                    clear hSh
                    refine hK.out _ _ h2 (fun _ hSh => ?_)
                    clear hK K
                    try simp only [getElem_toArray, getElem_cons_succ, getElem_cons_zero, Act.put, setIfInBounds_toArray, set_cons_zero, set_cons_succ]
                    refine wpAnyT_ready (rs := [12]) (by kernel_rfl) (by simp) ?_
                    refine AllReadyT.cons (o := _) (fun w' => Wi Kn w w' gw x y (T.SA i) (T.SB (j + 1)) (.slice RA a cA) (.slice (some ad) b cB) tA tB s) (fun _ => cond_at (by kernel_rfl)) (by kernel_rfl) hSh rfl (fun K hK => ?_) AllReadyT.nil
                    try simp only [getElem_toArray, getElem_cons_succ, getElem_cons_zero, Act.put, setIfInBounds_toArray, set_cons_zero, set_cons_succ]
                    go_simp
                    refine (HG.out d _ _ _ _ h2.sb).mono ?_
                    rintro e y3 ⟨TT, PP, bb, RR, rr, rfl, hrow3, hs3, hm3⟩
                    have h3 : Wi Kn w y3 gw x y (T.SA i) (T.SB (j + 1)) (.slice RA a cA) (.slice (some ad) b cB) tA tB s := h2.turnB hs3 hm3
                    rw [HL.out]
                    clear hSh
                    refine hK.out _ _ h3 (fun _ hSh => ?_)
                    clear hK K
                    try simp only [getElem_toArray, getElem_cons_succ, getElem_cons_zero, Act.put, setIfInBounds_toArray, set_cons_zero, set_cons_succ]
                    have HB3 : Blk y3 y1.heap.size [.slice none 0 0, .int .u16 0, .int .u16 0, .bool false] 51 := hB2.moves hm3 (fun e => by have := hxo _ e; omega)
                    refine wpAnyT_take (i := 13) (n := 80) (v := ?vv13_16) (fun w' => Wi Kn w w' gw x y (T.SA i) (T.SB (j + 1)) (.slice RA a cA) (.slice (some ad) b cB) tA tB s) rfl (by kernel_rfl) (by kernel_rfl) (by kernel_rfl) (fun _ _ _ h => h) ⟨by decide, .inl ⟨by kernel_rfl, rfl⟩⟩ hSh (Or.inl ⟨by rfl, ?yy13_16⟩) (by assumption) ?rr13_16
                    case yy13_16 => (intro w hSw; (skip); (try simp only [getElem_toArray, getElem_cons_succ, getElem_cons_zero, Act.put, setIfInBounds_toArray, set_cons_zero, set_cons_succ]); go_simp; (try (with_reducible rfl)))
                    clear hSh; intro hSh
                    try simp only [getElem_toArray, getElem_cons_succ, getElem_cons_zero, Act.put, setIfInBounds_toArray, set_cons_zero, set_cons_succ]
                    refine wpAnyT_take (i := 14) (n := 80) (v := ?vv14_17) (fun w' => Wi Kn w w' gw x y (T.SA i) (T.SB (j + 1)) (.slice RA a cA) (.slice (some ad) b cB) tA tB s) rfl (by kernel_rfl) (by kernel_rfl) (by kernel_rfl) (fun _ _ _ h => h) ⟨by decide, .inl ⟨by kernel_rfl, rfl⟩⟩ hSh (Or.inl ⟨by rfl, ?yy14_17⟩) (by assumption) ?rr14_17
                    case yy14_17 => (intro w hSw; (skip); (try simp only [getElem_toArray, getElem_cons_succ, getElem_cons_zero, Act.put, setIfInBounds_toArray, set_cons_zero, set_cons_succ]); go_simp; (try (with_reducible rfl)))
                    clear hSh; intro hSh
                    try simp only [getElem_toArray, getElem_cons_succ, getElem_cons_zero, Act.put, setIfInBounds_toArray, set_cons_zero, set_cons_succ]
                    refine wpAnyT_take (i := 15) (n := 80) (v := ?vv15_18) (fun w' => Wi Kn w w' gw x y (T.SA i) (T.SB (j + 1)) (.slice RA a cA) (.slice (some ad) b cB) tA tB s) rfl (by kernel_rfl) (by kernel_rfl) (by kernel_rfl) (fun _ _ _ h => h) ⟨by decide, .inl ⟨by kernel_rfl, rfl⟩⟩ hSh (Or.inl ⟨by rfl, ?yy15_18⟩) (by assumption) ?rr15_18
                    case yy15_18 => (intro w hSw; (skip); (try simp only [getElem_toArray, getElem_cons_succ, getElem_cons_zero, Act.put, setIfInBounds_toArray, set_cons_zero, set_cons_succ]); go_simp; (try (with_reducible rfl)))
                    clear hSh; intro hSh
                    try simp only [getElem_toArray, getElem_cons_succ, getElem_cons_zero, Act.put, setIfInBounds_toArray, set_cons_zero, set_cons_succ]
                    have q0 := HB3.at_ 0
                    have q1 := HB3.at_ 1
                    have q2 := HB3.at_ 2
                    have q3 := HB3.at_ 3
                    have g0 := HB3.frozen 0
                    have g1 := HB3.frozen 1
                    have g2 := HB3.frozen 2
                    have g3 := HB3.frozen 3
                    simp only [List.getElem?_cons_zero, List.getElem?_cons_succ] at q0 q1 q2 q3
                    have hO := out_put HB3 (.slice RR L rr) TT PP bb
                    have hF : Wi Kn w ((((y3.setCell ⟨y1.heap.size, 0, none⟩ (.slice RR L rr)).setCell ⟨y1.heap.size, 1, none⟩ (.int .u16 TT)).setCell ⟨y1.heap.size, 2, none⟩ (.int .u16 PP)).setCell ⟨y1.heap.size, 3, none⟩ (.bool bb)) gw x y (T.SA i) (T.SB (j + 1)) (.slice RA a cA) (.slice (some ad) b cB) tA tB s := h3.fresh hO.2 HFr.out
                    refine wpAnyT_ready (rs := [17]) (by kernel_rfl) (by simp) ?_
                    refine AllReadyT.cons (o := _) (fun w' => Wi Kn w w' gw x y (T.SA i) (T.SB (j + 1)) (.slice RA a cA) (.slice (some ad) b cB) tA tB s) (fun _ => cond_at (by kernel_rfl)) (by kernel_rfl) hSh rfl (fun K hK => ?_) AllReadyT.nil
                    try simp only [getElem_toArray, getElem_cons_succ, getElem_cons_zero, Act.put, setIfInBounds_toArray, set_cons_zero, set_cons_succ]
                    go_simp
                    clear hSh
                    refine hK.out _ _ hF (fun _ hSh => ?_)
                    clear hK K
                    try simp only [getElem_toArray, getElem_cons_succ, getElem_cons_zero, Act.put, setIfInBounds_toArray, set_cons_zero, set_cons_succ]
                    refine wpAnyT_take (i := 18) (n := 80) (v := ?vv18_19) (fun w' => Wi Kn w w' gw x y (T.SA i) (T.SB (j + 1)) (.slice RA a cA) (.slice (some ad) b cB) tA tB s) rfl (by kernel_rfl) (by kernel_rfl) (by kernel_rfl) (fun _ _ _ h => h) ⟨by decide, .inl ⟨by kernel_rfl, rfl⟩⟩ hSh (Or.inl ⟨by rfl, ?yy18_19⟩) (by assumption) ?rr18_19
                    case yy18_19 => (intro w hSw; (skip); (try simp only [getElem_toArray, getElem_cons_succ, getElem_cons_zero, Act.put, setIfInBounds_toArray, set_cons_zero, set_cons_succ]); go_simp; (try (with_reducible rfl)))
                    clear hSh; intro hSh
                    try simp only [getElem_toArray, getElem_cons_succ, getElem_cons_zero, Act.put, setIfInBounds_toArray, set_cons_zero, set_cons_succ]
                    refine wpAnyT_done (by kernel_rfl) ?_ _
                    go_wp2
                    go_meet
                    refine ⟨_, RR, rr, TT, PP, bb, rfl, hF, hO.1, ?_, ?_, ?_, ?_⟩
                    · exact HFr.out.2.2.2.2.1
                    · intro ad' e1 e2; have h5 := (hrow3.lt ad'.block (by rw [e1]; rfl)).1; omega
                    · exact (pks_own hrow3).moves hO.2 (fun ad' e1 e2 => by have h5 := (hrow3.lt ad'.block (by rw [e1]; rfl)).1; omega)
                    · exact own_none hrow3
                · try simp only [getElem_toArray, getElem_cons_succ, getElem_cons_zero, Act.put, setIfInBounds_toArray, set_cons_zero, set_cons_succ]
                  go_simp
                  have HFr := Lib.hid HW.out.frs
                  have h1 := (HW.out.alloc (.cells #[.slice none 0 0, .int .u16 0, .int .u16 0, .bool false] 51)).drew
                  have hB1 := (blk_new wc [.slice none 0 0, .int .u16 0, .int .u16 0, .bool false] 51).drew
                  obtain ⟨y1, hy1⟩ : ∃ y1, (wc.alloc (.cells #[.slice none 0 0, .int .u16 0, .int .u16 0, .bool false] 51)).drew = y1 := ⟨_, rfl⟩
                  have hgx : wc.heap.size < y1.heap.size := by rw [← hy1]; show _ < (wc.alloc _).heap.size; rw [World.size_alloc]; exact Nat.lt_succ_self _
                  replace hB1 : Blk y1 wc.heap.size [.slice none 0 0, .int .u16 0, .int .u16 0, .bool false] 51 := by rw [← hy1]; exact hB1
                  rw [hy1] at h1 ⊢
                  have hgw := HW.out.lt
                  have hxo := HW.out.sb.old
                  clear hSh
                  refine hK.out _ _ h1 (fun _ hSh => ?_)
                  clear hK K
                  try simp only [getElem_toArray, getElem_cons_succ, getElem_cons_zero, Act.put, setIfInBounds_toArray, set_cons_zero, set_cons_succ]
                  refine wpAnyT_ready (rs := [11]) (by kernel_rfl) (by simp) ?_
                  refine AllReadyT.cons (o := _) (fun w' => Wi Kn w w' gw x y (T.SA i) (T.SB j) (.slice RA a cA) (.slice (some ad) b cB) tA tB s) (fun _ => cond_ahead (by kernel_rfl)) (by kernel_rfl) hSh rfl (fun K hK => ?_) AllReadyT.nil
                  try simp only [getElem_toArray, getElem_cons_succ, getElem_cons_zero, Act.put, setIfInBounds_toArray, set_cons_zero, set_cons_succ]
                  go_simp
                  refine (next_any h1).mono ?_
                  rintro e y2 ⟨d, rfl, h2, hm2⟩
                  clear hSh
                  refine hK.out _ _ h2 (fun _ hSh => ?_)
                  clear hK K
                  try simp only [getElem_toArray, getElem_cons_succ, getElem_cons_zero, Act.put, setIfInBounds_toArray, set_cons_zero, set_cons_succ]
                  have hB2 : Blk y2 wc.heap.size [.slice none 0 0, .int .u16 0, .int .u16 0, .bool false] 51 := hB1.moves hm2 (by omega)
                  have hs2 := hm2.size
                  refine wpAnyT_ready (rs := [12]) (by kernel_rfl) (by simp) ?_
                  refine AllReadyT.cons (o := _) (fun w' => Wi Kn w w' gw x y (T.SA i) (T.SB (j + 1)) (.slice RA a cA) (.slice (some ad) b cB) tA tB s) (fun _ => cond_at (by kernel_rfl)) (by kernel_rfl) hSh rfl (fun K hK => ?_) AllReadyT.nil
                  try simp only [getElem_toArray, getElem_cons_succ, getElem_cons_zero, Act.put, setIfInBounds_toArray, set_cons_zero, set_cons_succ]
                  go_simp
                  refine (HG.out d _ _ _ _ h2.sb).mono ?_
                  rintro e y3 ⟨TT, PP, bb, RR, rr, rfl, hrow3, hs3, hm3⟩
                  have h3 : Wi Kn w y3 gw x y (T.SA i) (T.SB (j + 1)) (.slice RA a cA) (.slice (some ad) b cB) tA tB s := h2.turnB hs3 hm3
                  rw [HL.out]
                  clear hSh
                  refine hK.out _ _ h3 (fun _ hSh => ?_)
                  clear hK K
                  try simp only [getElem_toArray, getElem_cons_succ, getElem_cons_zero, Act.put, setIfInBounds_toArray, set_cons_zero, set_cons_succ]
                  have HB3 : Blk y3 wc.heap.size [.slice none 0 0, .int .u16 0, .int .u16 0, .bool false] 51 := hB2.moves hm3 (fun e => by have := hxo _ e; omega)
                  refine wpAnyT_take (i := 13) (n := 80) (v := ?vv13_20) (fun w' => Wi Kn w w' gw x y (T.SA i) (T.SB (j + 1)) (.slice RA a cA) (.slice (some ad) b cB) tA tB s) rfl (by kernel_rfl) (by kernel_rfl) (by kernel_rfl) (fun _ _ _ h => h) ⟨by decide, .inl ⟨by kernel_rfl, rfl⟩⟩ hSh (Or.inl ⟨by rfl, ?yy13_20⟩) (by assumption) ?rr13_20
                  case yy13_20 => (intro w hSw; (skip); (try simp only [getElem_toArray, getElem_cons_succ, getElem_cons_zero, Act.put, setIfInBounds_toArray, set_cons_zero, set_cons_succ]); go_simp; (try (with_reducible rfl)))
                  clear hSh; intro hSh
                  try simp only [getElem_toArray, getElem_cons_succ, getElem_cons_zero, Act.put, setIfInBounds_toArray, set_cons_zero, set_cons_succ]
                  refine wpAnyT_take (i := 14) (n := 80) (v := ?vv14_21) (fun w' => Wi Kn w w' gw x y (T.SA i) (T.SB (j + 1)) (.slice RA a cA) (.slice (some ad) b cB) tA tB s) rfl (by kernel_rfl) (by kernel_rfl) (by kernel_rfl) (fun _ _ _ h => h) ⟨by decide, .inl ⟨by kernel_rfl, rfl⟩⟩ hSh (Or.inl ⟨by rfl, ?yy14_21⟩) (by assumption) ?rr14_21
                  case yy14_21 => (intro w hSw; (skip); (try simp only [getElem_toArray, getElem_cons_succ, getElem_cons_zero, Act.put, setIfInBounds_toArray, set_cons_zero, set_cons_succ]); go_simp; (try (with_reducible rfl)))
                  clear hSh; intro hSh
                  try simp only [getElem_toArray, getElem_cons_succ, getElem_cons_zero, Act.put, setIfInBounds_toArray, set_cons_zero, set_cons_succ]
                  refine wpAnyT_take (i := 15) (n := 80) (v := ?vv15_22) (fun w' => Wi Kn w w' gw x y (T.SA i) (T.SB (j + 1)) (.slice RA a cA) (.slice (some ad) b cB) tA tB s) rfl (by kernel_rfl) (by kernel_rfl) (by kernel_rfl) (fun _ _ _ h => h) ⟨by decide, .inl ⟨by kernel_rfl, rfl⟩⟩ hSh (Or.inl ⟨by rfl, ?yy15_22⟩) (by assumption) ?rr15_22
                  case yy15_22 => (intro w hSw; (skip); (try simp only [getElem_toArray, getElem_cons_succ, getElem_cons_zero, Act.put, setIfInBounds_toArray, set_cons_zero, set_cons_succ]); go_simp; (try (with_reducible rfl)))
                  clear hSh; intro hSh
                  try simp only [getElem_toArray, getElem_cons_succ, getElem_cons_zero, Act.put, setIfInBounds_toArray, set_cons_zero, set_cons_succ]
                  have q0 := HB3.at_ 0
                  have q1 := HB3.at_ 1
                  have q2 := HB3.at_ 2
                  have q3 := HB3.at_ 3
                  have g0 := HB3.frozen 0
                  have g1 := HB3.frozen 1
                  have g2 := HB3.frozen 2
                  have g3 := HB3.frozen 3
                  simp only [List.getElem?_cons_zero, List.getElem?_cons_succ] at q0 q1 q2 q3
                  have hO := out_put HB3 (.slice RR L rr) TT PP bb
                  have hF : Wi Kn w ((((y3.setCell ⟨wc.heap.size, 0, none⟩ (.slice RR L rr)).setCell ⟨wc.heap.size, 1, none⟩ (.int .u16 TT)).setCell ⟨wc.heap.size, 2, none⟩ (.int .u16 PP)).setCell ⟨wc.heap.size, 3, none⟩ (.bool bb)) gw x y (T.SA i) (T.SB (j + 1)) (.slice RA a cA) (.slice (some ad) b cB) tA tB s := h3.fresh hO.2 HFr.out
                  refine wpAnyT_ready (rs := [17]) (by kernel_rfl) (by simp) ?_
                  refine AllReadyT.cons (o := _) (fun w' => Wi Kn w w' gw x y (T.SA i) (T.SB (j + 1)) (.slice RA a cA) (.slice (some ad) b cB) tA tB s) (fun _ => cond_at (by kernel_rfl)) (by kernel_rfl) hSh rfl (fun K hK => ?_) AllReadyT.nil
                  try simp only [getElem_toArray, getElem_cons_succ, getElem_cons_zero, Act.put, setIfInBounds_toArray, set_cons_zero, set_cons_succ]
                  go_simp
                  clear hSh
                  refine hK.out _ _ hF (fun _ hSh => ?_)
                  clear hK K
                  try simp only [getElem_toArray, getElem_cons_succ, getElem_cons_zero, Act.put, setIfInBounds_toArray, set_cons_zero, set_cons_succ]
                  refine wpAnyT_take (i := 18) (n := 80) (v := ?vv18_23) (fun w' => Wi Kn w w' gw x y (T.SA i) (T.SB (j + 1)) (.slice RA a cA) (.slice (some ad) b cB) tA tB s) rfl (by kernel_rfl) (by kernel_rfl) (by kernel_rfl) (fun _ _ _ h => h) ⟨by decide, .inl ⟨by kernel_rfl, rfl⟩⟩ hSh (Or.inl ⟨by rfl, ?yy18_23⟩) (by assumption) ?rr18_23
                  case yy18_23 => (intro w hSw; (skip); (try simp only [getElem_toArray, getElem_cons_succ, getElem_cons_zero, Act.put, setIfInBounds_toArray, set_cons_zero, set_cons_succ]); go_simp; (try (with_reducible rfl)))
                  clear hSh; intro hSh
                  try simp only [getElem_toArray, getElem_cons_succ, getElem_cons_zero, Act.put, setIfInBounds_toArray, set_cons_zero, set_cons_succ]
                  refine wpAnyT_done (by kernel_rfl) ?_ _
                  go_wp2
                  go_meet
                  refine ⟨_, RR, rr, TT, PP, bb, rfl, hF, hO.1, ?_, ?_, ?_, ?_⟩
                  · exact HFr.out.2.2.2.2.1
                  · intro ad' e1 e2; have h5 := (hrow3.lt ad'.block (by rw [e1]; rfl)).1; omega
                  · exact (pks_own hrow3).moves hO.2 (fun ad' e1 e2 => by have h5 := (hrow3.lt ad'.block (by rw [e1]; rfl)).1; omega)
                  · exact own_none hrow3
            case rest =>
            obtain ⟨gX, RR, rr, TT, PP, bb, rfl, H3, HX, HXg, HRg, HR3, HRn⟩ := hcut
            clear HG HPd c0 c1 c2 c3 c5 f2 f3 f5 HW
            generalize wc = y3 at *
            obtain ⟨c0, c1, c2, c3, c5, f2, f3, f5⟩ := H3.out.cells
            have HPt : Hid (Pks y3 (some ⟨ad.block, ad.off + 3, none⟩) tl) := by
              have h5 := pks_tail (HPk.out _ _ _ H3.out)
              rw [show ad.add 3 = ⟨ad.block, ad.off + 3, none⟩ from by unfold Addr.add; simp] at h5
              exact h5
            go_upto_region 10 with (fail)
            go_cut [10] from 15 to 147 (fun u wx => u = .pointer (some ⟨gX, 0, none⟩) ∧ ∃ v, Hid (Wi Kn w wx gw x y (T.SA i) (T.SB (j + 1)) (.slice RA a cA) v tA tl s) ∧ Hid (Blk wx gX [.slice RR L rr, .int .u16 TT, .int .u16 PP, .bool bb] 51) ∧ Hid (Pks wx RR l))
            case first =>
              as_aux_lemma =>
                have hac : b ≤ cB ∧ cB ≤ maxLen := by
                  rcases H3.out.rB.2 with ⟨e, _⟩ | ⟨g9, cap9, cur9, e, _, _, h1, h2, _⟩
                  · cases e
                  · cases e
                    rw [Hb.out] at h1
                    exact ⟨h1, h2⟩
                have hac2 := hac.2
                unfold maxLen at hac2
                have hnil : tl = [] → Hid (Wi Kn w (y3.setCell ⟨gw, 3, none⟩ (.slice none 0 0)) gw x y (T.SA i) (T.SB (j + 1)) (.slice RA a cA) (.slice none 0 0) tA tl s ∧ Blk (y3.setCell ⟨gw, 3, none⟩ (.slice none 0 0)) gX [.slice RR L rr, .int .u16 TT, .int .u16 PP, .bool bb] 51 ∧ Pks (y3.setCell ⟨gw, 3, none⟩ (.slice none 0 0)) RR l) := by
                  rintro rfl
                  have hm := set1_moves y3 gw 3 (.slice none 0 0)
                  exact ⟨(H3.out.newB (l := []) ⟨rfl, rfl, rfl, Nat.le_refl _, fun _ _ _ => rfl⟩ (World.ownsRow_nil _ _ _ _) (.inl rfl)).1, HX.out.moves hm HXg.out, HR3.out.moves hm (HRg.out)⟩
                by_cases hc1 : cB = 1
                · have ha1 : b = 1 := by omega
                  have htn : tl = [] := List.eq_nil_of_length_eq_zero (by omega)
                  have hz := hnil htn
                  subst hc1
                  subst ha1
                  clear hnil hac hac2
                  go_wp2
                  go_meet
                  exact ⟨rfl, _, hz.out.1, hz.out.2.1, hz.out.2.2⟩
                · by_cases ha1 : b = 1
                  · have htn : tl = [] := List.eq_nil_of_length_eq_zero (by omega)
                    have hz := hnil htn
                    subst ha1
                    clear hnil hac
                    go_wp2
                    go_meet
                    exact ⟨rfl, _, hz.out.1, hz.out.2.1, hz.out.2.2⟩
                  · clear hnil
                    have hle : tl.length = b - 1 := by omega
                    have Hle := Lib.hid hle
                    clear hle
                    go_wp2_with (at_builtin; refine append_pks_at rfl _ _ 49 rfl w.heap.size 56 i0 _ 24 Tryz.underlying49 hi0 hz0 hz1 hz2 rfl _ 0 [] rfl (World.ownsRow_nil _ _ _ _) (some ⟨ad.block, ad.off + 3, none⟩) (b - 1) (cB - 1) tl Hle.out (fun e => by cases e) rfl HPt.out (by unfold maxLen; omega) (by omega) H3.out.hb.size ?_; intro v4 y4 hr4 hg4 hat4; rw [List.nil_append, Nat.zero_add, ← Hle.out] at hr4; obtain ⟨R4, q4, hv4⟩ := own_slice hr4; subst hv4; have HN4 := Lib.hid (H3.out.newB (l := tl) hg4 hr4 hat4); have hb4 : Below y3.heap.size y3 y4 := ⟨hg4.os, hg4.tape, hg4.output, hg4.size, fun k hk => hg4.block k hk (fun e => by cases e)⟩; have HX4 := Lib.hid (HX.out.callee hb4); have HR4 := Lib.hid (HR3.out.below hb4); clear hr4 hg4 hat4 hb4; obtain ⟨c0, c1, c2, c3, c5, f2, f3, f5⟩ := HN4.out.2.cells)
                    go_meet
                    have hm := set1_moves y4 gw 3 (.slice R4 tl.length q4)
                    exact ⟨rfl, _, HN4.out.1, HX4.out.moves hm HXg.out, HR4.out.moves hm HRg.out⟩
            case rest =>
            obtain ⟨rfl, v, HW4, HX4, HR4⟩ := hcut
            clear H3 HX HR3 HPt HPk c0 c1 c2 c3 c5 f2 f3 f5
            have HrO : Hid (wc.drew.ownsRow w.heap.size 56 3 (.slice RA a cA) a (pksV tA)) := by
              have h5 := HW4.out.drew.rA
              rw [Ha.out] at h5
              exact h5
            have HR5 : Hid (Pks wc.drew RR l) := HR4.out.below (Below.drewN' (Below.refl _ wc) 1)
            have hHeld8 : Wi Kn w wc.drew gw x y (T.SA i) (T.SB (j + 1)) (.slice RA a cA) v tA tl s ∧ Blk wc.drew gX [.slice RR L rr, .int .u16 TT, .int .u16 PP, .bool bb] 51 := ⟨HW4.out.drew, HX4.out.drew⟩
            go_upto_region 11 with (fail)
            refine wp_region_t 7 (fun w' => Wi Kn w w' gw x y (T.SA i) (T.SB (j + 1)) (.slice RA a cA) v tA tl s ∧ Blk w' gX [.slice RR L rr, .int .u16 TT, .int .u16 PP, .bool bb] 51) (fun _ => True) (by kernel_rfl) (fun hSh => ?_)
            refine wpAnyT_take (i := 1) (n := 80) (v := ?vv1_24) (fun w' => Wi Kn w w' gw x y (T.SA i) (T.SB (j + 1)) (.slice RA a cA) v tA tl s ∧ Blk w' gX [.slice RR L rr, .int .u16 TT, .int .u16 PP, .bool bb] 51) rfl (by kernel_rfl) (by kernel_rfl) (by kernel_rfl) (fun _ _ _ h => h) ⟨by decide, .inr ⟨by kernel_rfl, by kernel_rfl, rfl⟩⟩ hSh (Or.inl ⟨by rfl, ?yy1_24⟩) (by assumption) ?rr1_24
            case yy1_24 => (intro w hSw; (skip); (try simp only [getElem_toArray, getElem_cons_succ, getElem_cons_zero, Act.put, setIfInBounds_toArray, set_cons_zero, set_cons_succ]); go_simp; (try (with_reducible rfl)))
            clear hSh; intro hSh
            try simp only [getElem_toArray, getElem_cons_succ, getElem_cons_zero, Act.put, setIfInBounds_toArray, set_cons_zero, set_cons_succ]
            refine wpAnyT_take (i := 2) (n := 80) (v := ?vv2_25) (fun w' => Wi Kn w w' gw x y (T.SA i) (T.SB (j + 1)) (.slice RA a cA) v tA tl s ∧ Blk w' gX [.slice RR L rr, .int .u16 TT, .int .u16 PP, .bool bb] 51) rfl (by kernel_rfl) (by kernel_rfl) (by kernel_rfl) (fun _ _ _ h => h) ⟨by decide, .inr ⟨by kernel_rfl, by kernel_rfl, rfl⟩⟩ hSh (Or.inl ⟨by rfl, ?yy2_25⟩) (by assumption) ?rr2_25
            case yy2_25 => (intro w hSw; (skip); (try simp only [getElem_toArray, getElem_cons_succ, getElem_cons_zero, Act.put, setIfInBounds_toArray, set_cons_zero, set_cons_succ]); go_simp; (try (with_reducible rfl)))
            clear hSh; intro hSh
            try simp only [getElem_toArray, getElem_cons_succ, getElem_cons_zero, Act.put, setIfInBounds_toArray, set_cons_zero, set_cons_succ]
            refine wpAnyT_take (i := 3) (n := 80) (v := ?vv3_26) (fun w' => Wi Kn w w' gw x y (T.SA i) (T.SB (j + 1)) (.slice RA a cA) v tA tl s ∧ Blk w' gX [.slice RR L rr, .int .u16 TT, .int .u16 PP, .bool bb] 51) rfl (by kernel_rfl) (by kernel_rfl) (by kernel_rfl) (fun _ _ _ h => h) ⟨by decide, .inr ⟨by kernel_rfl, by kernel_rfl, rfl⟩⟩ hSh (Or.inl ⟨by rfl, ?yy3_26⟩) (by assumption) ?rr3_26
            case yy3_26 => (intro w hSw; (skip); (try simp only [getElem_toArray, getElem_cons_succ, getElem_cons_zero, Act.put, setIfInBounds_toArray, set_cons_zero, set_cons_succ]); go_simp; (try (with_reducible rfl)))
            clear hSh; intro hSh
            try simp only [getElem_toArray, getElem_cons_succ, getElem_cons_zero, Act.put, setIfInBounds_toArray, set_cons_zero, set_cons_succ]
            refine wpAnyT_take (i := 4) (n := 80) (v := ?vv4_27) (fun w' => Wi Kn w w' gw x y (T.SA i) (T.SB (j + 1)) (.slice RA a cA) v tA tl s ∧ Blk w' gX [.slice RR L rr, .int .u16 TT, .int .u16 PP, .bool bb] 51) rfl (by kernel_rfl) (by kernel_rfl) (by kernel_rfl) (fun _ _ _ h => h) ⟨by decide, .inr ⟨by kernel_rfl, by kernel_rfl, rfl⟩⟩ hSh (Or.inl ⟨by rfl, ?yy4_27⟩) (by assumption) ?rr4_27
            case yy4_27 => (intro w hSw; (obtain ⟨c0, c1, c2, c3, c5, f2, f3, f5⟩ := hSw.1.cells); (try simp only [getElem_toArray, getElem_cons_succ, getElem_cons_zero, Act.put, setIfInBounds_toArray, set_cons_zero, set_cons_succ]); go_simp; (try (with_reducible rfl)))
            clear hSh; intro hSh
            try simp only [getElem_toArray, getElem_cons_succ, getElem_cons_zero, Act.put, setIfInBounds_toArray, set_cons_zero, set_cons_succ]
            refine wpAnyT_take (i := 5) (n := 80) (v := ?vv5_28) (fun w' => Wi Kn w w' gw x y (T.SA i) (T.SB (j + 1)) (.slice RA a cA) v tA tl s ∧ Blk w' gX [.slice RR L rr, .int .u16 TT, .int .u16 PP, .bool bb] 51) rfl (by kernel_rfl) (by kernel_rfl) (by kernel_rfl) (fun _ _ _ h => h) ⟨by decide, .inr ⟨by kernel_rfl, by kernel_rfl, rfl⟩⟩ hSh (Or.inl ⟨by rfl, ?yy5_28⟩) (by assumption) ?rr5_28
            case yy5_28 => (intro w hSw; (skip); (try simp only [getElem_toArray, getElem_cons_succ, getElem_cons_zero, Act.put, setIfInBounds_toArray, set_cons_zero, set_cons_succ]); go_simp; (try (with_reducible rfl)))
            clear hSh; intro hSh
            try simp only [getElem_toArray, getElem_cons_succ, getElem_cons_zero, Act.put, setIfInBounds_toArray, set_cons_zero, set_cons_succ]
            refine wpAnyT_take (i := 6) (n := 80) (v := ?vv6_29) (fun w' => Wi Kn w w' gw x y (T.SA i) (T.SB (j + 1)) (.slice RA a cA) v tA tl s ∧ Blk w' gX [.slice RR L rr, .int .u16 TT, .int .u16 PP, .bool bb] 51) rfl (by kernel_rfl) (by kernel_rfl) (by kernel_rfl) (fun _ _ _ h => h) ⟨by decide, .inr ⟨by kernel_rfl, by kernel_rfl, rfl⟩⟩ hSh (Or.inl ⟨by rfl, ?yy6_29⟩) (by assumption) ?rr6_29
            case yy6_29 => (intro w hSw; (have x0 : w.cell? ⟨gX, 0, none⟩ = some (.slice RR L rr) := hSw.2.at_ 0); (try simp only [getElem_toArray, getElem_cons_succ, getElem_cons_zero, Act.put, setIfInBounds_toArray, set_cons_zero, set_cons_succ]); go_simp; (try (with_reducible rfl)))
            clear hSh; intro hSh
            try simp only [getElem_toArray, getElem_cons_succ, getElem_cons_zero, Act.put, setIfInBounds_toArray, set_cons_zero, set_cons_succ]
            refine wpAnyT_ready (rs := [0, 7]) (by kernel_rfl) (by simp) ?_
            refine AllReadyT.cons (o := _) (fun w' => Wi Kn w w' gw x y (T.SA i) (T.SB (j + 1)) (.slice RA a cA) v tA tl s ∧ Blk w' gX [.slice RR L rr, .int .u16 TT, .int .u16 PP, .bool bb] 51) (fun _ => cond_ahead (by kernel_rfl)) (by kernel_rfl) hSh rfl (fun K hK => ?_) (AllReadyT.cons (o := _) (fun _ => True) (fun _ => cond_at (by kernel_rfl)) (by kernel_rfl) hSh rfl (fun K hK => ?_) AllReadyT.nil)
            · try simp only [getElem_toArray, getElem_cons_succ, getElem_cons_zero, Act.put, setIfInBounds_toArray, set_cons_zero, set_cons_succ]
              go_simp
              clear hSh
              refine hK.out _ _ hHeld8 (fun _ hSh => ?_)
              clear hK K
              try simp only [getElem_toArray, getElem_cons_succ, getElem_cons_zero, Act.put, setIfInBounds_toArray, set_cons_zero, set_cons_succ]
              refine wpAnyT_ready (rs := [7]) (by kernel_rfl) (by simp) ?_
              refine AllReadyT.cons (o := _) (fun _ => True) (fun _ => cond_at (by kernel_rfl)) (by kernel_rfl) hSh rfl (fun K hK => ?_) AllReadyT.nil
              refine step_pks wc.drew (by rfl) _ _ 49 (by rfl) w.heap.size 56 i0 _ 24 Tryz.underlying49 hi0 hz0 hz1 hz2 rfl (.slice RA a cA) a tA (by rfl) HrO.out RR L rr l HL.out HRn.out (by rfl) HR5.out (by unfold maxLen; omega) (by omega) HW4.out.drew.hb.size ?_
              intro v6 y6 hr6 hg6 hat6
              rw [← Ha.out, ← HL.out] at hr6
              obtain ⟨R6, q6, hv6⟩ := own_slice hr6
              subst hv6
              have HN6 := Lib.hid (HW4.out.drew.growA (l := l) hg6 hr6 hat6)
              clear hr6 hg6 hat6
              obtain ⟨d6, hd6⟩ := HN6.out.2
              have c3 := hd6.at_ 2
              have f3 := hd6.frozen 2
              have c5 : y6.cell? ⟨gw, 5, none⟩ = some (.int .i64 s) := hd6.at_ 5
              have f5 := hd6.frozen 5
              clear hd6
              clear hSh
              refine hK.out _ _ trivial (fun _ hSh => ?_)
              clear hK K
              try simp only [getElem_toArray, getElem_cons_succ, getElem_cons_zero, Act.put, setIfInBounds_toArray, set_cons_zero, set_cons_succ]
              refine wpAnyT_take (i := 8) (n := 80) (v := ?vv8_30) (fun _ => True) rfl (by kernel_rfl) (by kernel_rfl) (by kernel_rfl) (fun _ _ _ h => h) ⟨by decide, .inl ⟨by kernel_rfl, rfl⟩⟩ hSh (Or.inl ⟨by rfl, ?yy8_30⟩) (by assumption) ?rr8_30
              case yy8_30 => (intro w hSw; (skip); (try simp only [getElem_toArray, getElem_cons_succ, getElem_cons_zero, Act.put, setIfInBounds_toArray, set_cons_zero, set_cons_succ]); go_simp; (try (with_reducible rfl)))
              clear hSh; intro hSh
              try simp only [getElem_toArray, getElem_cons_succ, getElem_cons_zero, Act.put, setIfInBounds_toArray, set_cons_zero, set_cons_succ]
              refine wpAnyT_take (i := 9) (n := 80) (v := ?vv9_31) (fun _ => True) rfl (by kernel_rfl) (by kernel_rfl) (by kernel_rfl) (fun _ _ _ h => h) ⟨by decide, .inl ⟨by kernel_rfl, rfl⟩⟩ hSh (Or.inl ⟨by rfl, ?yy9_31⟩) (by assumption) ?rr9_31
              case yy9_31 => (intro w hSw; (skip); (try simp only [getElem_toArray, getElem_cons_succ, getElem_cons_zero, Act.put, setIfInBounds_toArray, set_cons_zero, set_cons_succ]); go_simp; (try (with_reducible rfl)))
              clear hSh; intro hSh
              try simp only [getElem_toArray, getElem_cons_succ, getElem_cons_zero, Act.put, setIfInBounds_toArray, set_cons_zero, set_cons_succ]
              refine wpAnyT_ready (rs := [10]) (by kernel_rfl) (by simp) ?_
              refine AllReadyT.cons (o := _) (fun _ => True) (fun _ => cond_at (by kernel_rfl)) (by kernel_rfl) hSh rfl (fun K hK => ?_) AllReadyT.nil
              try simp only [getElem_toArray, getElem_cons_succ, getElem_cons_zero, Act.put, setIfInBounds_toArray, set_cons_zero, set_cons_succ]
              go_simp
              clear hSh
              refine hK.out _ _ trivial (fun _ hSh => ?_)
              clear hK K
              try simp only [getElem_toArray, getElem_cons_succ, getElem_cons_zero, Act.put, setIfInBounds_toArray, set_cons_zero, set_cons_succ]
              refine wpAnyT_done (by kernel_rfl) ?_ _
              clear hSh
              have H7 := Lib.hid HN6.out.1
              obtain ⟨z0, z1, z2, z3, z5, g2, g3, g5⟩ := H7.out.cells
              clear z0 z1 z2 z3 g2 g3
              have H8 := Lib.hid (H7.out.setSent (s + 1))
              have hcs : ((s + 1 : Nat) : Int) = (s : Int) + 1 := by omega
              rw [hcs] at H8
              clear hcs
              have hsw : IntKind.i64.wrap ((s : Int) + 1) = ((s + 1 : Nat) : Int) := by simp only [IntKind.wrap_i64]; omega
              go_wp2
              go_roundw
              case rel =>
                have h9 := H8.out
                refine ⟨i, j + 1, .slice R6 (tA.length + l.length) q6, v, ⟨HR.out.1, by omega, Nat.le_trans HR.out.2.2.1 (T.mB j hiN).1, HIJ.out, ?_⟩⟩
                have e9 : s + 1 = i + (j + 1) := by rw [Hs.out]; omega
                rw [HB2.out, Htl.out, e9] at h9
                exact h9
              case measure =>
                have m1 := H8.out.cells.2.2.2.2.1
                rw [sentOf_eq HC5.out, sentOf_eq m1]
                omega
            · refine step_pks wc.drew (by rfl) _ _ 49 (by rfl) w.heap.size 56 i0 _ 24 Tryz.underlying49 hi0 hz0 hz1 hz2 rfl (.slice RA a cA) a tA (by rfl) HrO.out RR L rr l HL.out HRn.out (by rfl) HR5.out (by unfold maxLen; omega) (by omega) HW4.out.drew.hb.size ?_
              intro v6 y6 hr6 hg6 hat6
              rw [← Ha.out, ← HL.out] at hr6
              obtain ⟨R6, q6, hv6⟩ := own_slice hr6
              subst hv6
              have HN6 := Lib.hid (HW4.out.drew.growA (l := l) hg6 hr6 hat6)
              clear hr6 hg6 hat6
              obtain ⟨d6, hd6⟩ := HN6.out.2
              have c3 := hd6.at_ 2
              have f3 := hd6.frozen 2
              have c5 : y6.cell? ⟨gw, 5, none⟩ = some (.int .i64 s) := hd6.at_ 5
              have f5 := hd6.frozen 5
              clear hd6
              clear hSh
              refine hK.out _ _ trivial (fun _ hSh => ?_)
              clear hK K
              try simp only [getElem_toArray, getElem_cons_succ, getElem_cons_zero, Act.put, setIfInBounds_toArray, set_cons_zero, set_cons_succ]
              refine wpAnyT_take (i := 0) (n := 80) (v := ?vv0_32) (fun _ => True) rfl (by kernel_rfl) (by kernel_rfl) (by kernel_rfl) (fun _ _ _ h => h) ⟨by decide, .inl ⟨by kernel_rfl, rfl⟩⟩ hSh (Or.inl ⟨by rfl, ?yy0_32⟩) (by assumption) ?rr0_32
              case yy0_32 => (intro w hSw; (skip); (try simp only [getElem_toArray, getElem_cons_succ, getElem_cons_zero, Act.put, setIfInBounds_toArray, set_cons_zero, set_cons_succ]); go_simp; (try (with_reducible rfl)))
              clear hSh; intro hSh
              try simp only [getElem_toArray, getElem_cons_succ, getElem_cons_zero, Act.put, setIfInBounds_toArray, set_cons_zero, set_cons_succ]
              refine wpAnyT_take (i := 8) (n := 80) (v := ?vv8_33) (fun _ => True) rfl (by kernel_rfl) (by kernel_rfl) (by kernel_rfl) (fun _ _ _ h => h) ⟨by decide, .inl ⟨by kernel_rfl, rfl⟩⟩ hSh (Or.inl ⟨by rfl, ?yy8_33⟩) (by assumption) ?rr8_33
              case yy8_33 => (intro w hSw; (skip); (try simp only [getElem_toArray, getElem_cons_succ, getElem_cons_zero, Act.put, setIfInBounds_toArray, set_cons_zero, set_cons_succ]); go_simp; (try (with_reducible rfl)))
              clear hSh; intro hSh
              try simp only [getElem_toArray, getElem_cons_succ, getElem_cons_zero, Act.put, setIfInBounds_toArray, set_cons_zero, set_cons_succ]
              refine wpAnyT_take (i := 9) (n := 80) (v := ?vv9_34) (fun _ => True) rfl (by kernel_rfl) (by kernel_rfl) (by kernel_rfl) (fun _ _ _ h => h) ⟨by decide, .inl ⟨by kernel_rfl, rfl⟩⟩ hSh (Or.inl ⟨by rfl, ?yy9_34⟩) (by assumption) ?rr9_34
              case yy9_34 => (intro w hSw; (skip); (try simp only [getElem_toArray, getElem_cons_succ, getElem_cons_zero, Act.put, setIfInBounds_toArray, set_cons_zero, set_cons_succ]); go_simp; (try (with_reducible rfl)))
              clear hSh; intro hSh
              try simp only [getElem_toArray, getElem_cons_succ, getElem_cons_zero, Act.put, setIfInBounds_toArray, set_cons_zero, set_cons_succ]
              refine wpAnyT_ready (rs := [10]) (by kernel_rfl) (by simp) ?_
              refine AllReadyT.cons (o := _) (fun _ => True) (fun _ => cond_at (by kernel_rfl)) (by kernel_rfl) hSh rfl (fun K hK => ?_) AllReadyT.nil
              try simp only [getElem_toArray, getElem_cons_succ, getElem_cons_zero, Act.put, setIfInBounds_toArray, set_cons_zero, set_cons_succ]
              go_simp
              clear hSh
              refine hK.out _ _ trivial (fun _ hSh => ?_)
              clear hK K
              try simp only [getElem_toArray, getElem_cons_succ, getElem_cons_zero, Act.put, setIfInBounds_toArray, set_cons_zero, set_cons_succ]
              refine wpAnyT_done (by kernel_rfl) ?_ _
              clear hSh
              have H7 := Lib.hid HN6.out.1
              obtain ⟨z0, z1, z2, z3, z5, g2, g3, g5⟩ := H7.out.cells
              clear z0 z1 z2 z3 g2 g3
              have H8 := Lib.hid (H7.out.setSent (s + 1))
              have hcs : ((s + 1 : Nat) : Int) = (s : Int) + 1 := by omega
              rw [hcs] at H8
              clear hcs
              have hsw : IntKind.i64.wrap ((s : Int) + 1) = ((s + 1 : Nat) : Int) := by simp only [IntKind.wrap_i64]; omega
              go_wp2
              go_roundw
              case rel =>
                have h9 := H8.out
                refine ⟨i, j + 1, .slice R6 (tA.length + l.length) q6, v, ⟨HR.out.1, by omega, Nat.le_trans HR.out.2.2.1 (T.mB j hiN).1, HIJ.out, ?_⟩⟩
                have e9 : s + 1 = i + (j + 1) := by rw [Hs.out]; omega
                rw [HB2.out, Htl.out, e9] at h9
                exact h9
              case measure =>
                have m1 := H8.out.cells.2.2.2.2.1
                rw [sentOf_eq HC5.out, sentOf_eq m1]
                omega
        · clear hbB
          as_aux_lemma =>
            have hpos : 0 < a := hbA rfl
            have hij : i < T.sB j := by
              rcases Nat.lt_or_ge i (T.sB j) with h | h
              · exact h
              · exfalso
                have h2 := Ha.out
                rw [HtA.out, List.length_drop, List.length_take] at h2
                omega
            have hs1 : T.sB j ≤ T.OB.length := by rw [T.lB]; exact sB_le T j HR.out.2.1
            have HtA2 : Hid (tA = T.OB[i]'(by omega) :: (T.OB.take (T.sB j)).drop (i + 1)) := HtA.out.trans (head_tail T.OB (T.sB j) i hij hs1)
            have hiN : i < T.N := by have := T.lB; omega
            have HG := Lib.hid (T.hA i (by rw [T.lB]; exact hiN))
            obtain ⟨p, hp⟩ : ∃ p, p = T.OB[i]'(by omega) := ⟨_, rfl⟩
            obtain ⟨l, hl⟩ : ∃ l, l = (T.OA.drop (T.sA i)).take (T.sA (i + 1) - T.sA i) := ⟨_, rfl⟩
            have hll : l.length ≤ 7 := by rw [hl, List.length_take, List.length_drop, T.lA]; have := T.hN; omega
            have HB2 : Hid (tB ++ l = (T.OA.take (T.sA (i + 1))).drop j) := by
              show _ = _
              rw [HtB.out, hl]
              have hm := T.mA i hiN
              exact take_drop _ _ _ _ HR.out.2.2.2.1 hm.1 (by rw [T.lA]; exact hm.2)
            obtain ⟨tl, htl⟩ : ∃ tl, tl = (T.OB.take (T.sB j)).drop (i + 1) := ⟨_, rfl⟩
            rw [← hp, ← htl] at HtA2
            rw [← hp, ← hl] at HG
            have Htl := Lib.hid htl
            have Hll := Lib.hid hll
            have hlt : tl.length + 1 = a := by
              have h2 := Ha.out
              rw [HtA2.out] at h2
              exact h2
            have HIJ := Lib.hid hij
            clear hp hl htl hll hij hs1
            obtain ⟨L, hL⟩ : ∃ L, l.length = L := ⟨_, rfl⟩
            have HL := Lib.hid hL
            have hL7 : L ≤ 7 := by rw [← hL]; exact Hll.out
            clear hL
            have HPk : Hid (∀ W' (sa' sb' : Sd Kn), Wi Kn w W' gw x y sa' sb' (.slice RA a cA) (.slice RB b cB) tA tB s → Pks W' RA (p :: tl)) := by
              intro W' sa' sb' hw
              have h2 := hw.rA
              rw [Ha.out] at h2
              have h3 : W'.ownsRow w.heap.size 56 3 (.slice RA (p :: tl).length cA) (p :: tl).length (pksV (p :: tl)) := by
                rw [← HtA2.out, Ha.out]; exact h2
              exact pks_own h3
            obtain ⟨ad, hadr, _, _⟩ := HPk.out _ _ _ HW.out (by simp)
            subst hadr
            have HPd : Hid (∀ W', Wi Kn w W' gw x y (T.SA i) (T.SB j) (.slice (some ad) a cA) (.slice RB b cB) tA tB s → W'.cell? ad = some (.int .u8 p.c.toNat) ∧ W'.cell? ⟨ad.block, ad.off + 1, none⟩ = some (.int .u8 p.i.toNat) ∧ W'.cell? ⟨ad.block, ad.off + 2, none⟩ = some (.string p.d)) := by
              intro W' h
              have h2 := h.rA
              rw [Ha.out] at h2
              have h3 : W'.ownsRow w.heap.size 56 3 (.slice (some ad) (p :: tl).length cA) (p :: tl).length (pksV (p :: tl)) := by
                rw [← HtA2.out, Ha.out]; exact h2
              obtain ⟨ad', p', e1, e2, d0, d1, d2⟩ := (pks_own h3).at_ (k := 0) (Nat.succ_pos _)
              cases e1
              cases e2
              rw [Nat.zero_mul, show ad.add 0 = ad from by unfold Addr.add; simp] at d0 d1 d2
              exact ⟨d0, d1, d2⟩
            have hn1 : (0 : Int) < (a : Int) := by omega
            go_upto_region 6 with (fail)
            go_cut [8] from 15 to 147 (fun u wx => ∃ (gX : Nat) (RR : Option Addr) (rr : Nat) (TT PP : Int) (bb : Bool), u = .pointer (some ⟨gX, 0, none⟩) ∧ Hid (Wi Kn w wx gw x y (T.SA (i + 1)) (T.SB j) (.slice (some ad) a cA) (.slice RB b cB) tA tB s) ∧ Hid (Blk wx gX [.slice RR L rr, .int .u16 TT, .int .u16 PP, .bool bb] 51) ∧ Hid (gX ≠ gw) ∧ Hid (∀ ad', RR = some ad' → ¬ ad'.block = gw) ∧ Hid (Pks wx RR l) ∧ Hid (RR = none → rr = 0))
            case first =>
              as_aux_lemma =>
                have hHeld : Wi Kn w wc.drew gw x y (T.SA i) (T.SB j) (.slice (some ad) a cA) (.slice RB b cB) tA tB s := HW.out.drew
                refine wp_region_t 12 (fun w' => Wi Kn w w' gw x y (T.SA i) (T.SB j) (.slice (some ad) a cA) (.slice RB b cB) tA tB s) (fun w' => Wi Kn w w' gw x y (T.SA (i + 1)) (T.SB j) (.slice (some ad) a cA) (.slice RB b cB) tA tB s) (by kernel_rfl) (fun hSh => ?_)
                refine wpAnyT_take (i := 0) (n := 80) (v := ?vv0_35) (fun w' => Wi Kn w w' gw x y (T.SA i) (T.SB j) (.slice (some ad) a cA) (.slice RB b cB) tA tB s) rfl (by kernel_rfl) (by kernel_rfl) (by kernel_rfl) (fun _ _ _ h => h) ⟨by decide, .inr ⟨by kernel_rfl, by kernel_rfl, rfl⟩⟩ hSh (Or.inl ⟨by rfl, ?yy0_35⟩) (by assumption) ?rr0_35
                case yy0_35 => (intro w hSw; (skip); (try simp only [getElem_toArray, getElem_cons_succ, getElem_cons_zero, Act.put, setIfInBounds_toArray, set_cons_zero, set_cons_succ]); go_simp; (try (with_reducible rfl)))
                clear hSh; intro hSh
                try simp only [getElem_toArray, getElem_cons_succ, getElem_cons_zero, Act.put, setIfInBounds_toArray, set_cons_zero, set_cons_succ]
                refine wpAnyT_take (i := 1) (n := 80) (v := ?vv1_36) (fun w' => Wi Kn w w' gw x y (T.SA i) (T.SB j) (.slice (some ad) a cA) (.slice RB b cB) tA tB s) rfl (by kernel_rfl) (by kernel_rfl) (by kernel_rfl) (fun _ _ _ h => h) ⟨by decide, .inr ⟨by kernel_rfl, by kernel_rfl, rfl⟩⟩ hSh (Or.inl ⟨by rfl, ?yy1_36⟩) (by assumption) ?rr1_36
                case yy1_36 => (intro w hSw; (skip); (try simp only [getElem_toArray, getElem_cons_succ, getElem_cons_zero, Act.put, setIfInBounds_toArray, set_cons_zero, set_cons_succ]); go_simp; (try (with_reducible rfl)))
                clear hSh; intro hSh
                try simp only [getElem_toArray, getElem_cons_succ, getElem_cons_zero, Act.put, setIfInBounds_toArray, set_cons_zero, set_cons_succ]
                refine wpAnyT_take (i := 2) (n := 80) (v := ?vv2_37) (fun w' => Wi Kn w w' gw x y (T.SA i) (T.SB j) (.slice (some ad) a cA) (.slice RB b cB) tA tB s) rfl (by kernel_rfl) (by kernel_rfl) (by kernel_rfl) (fun _ _ _ h => h) ⟨by decide, .inr ⟨by kernel_rfl, by kernel_rfl, rfl⟩⟩ hSh (Or.inl ⟨by rfl, ?yy2_37⟩) (by assumption) ?rr2_37
                case yy2_37 => (intro w hSw; (skip); (try simp only [getElem_toArray, getElem_cons_succ, getElem_cons_zero, Act.put, setIfInBounds_toArray, set_cons_zero, set_cons_succ]); go_simp; (try (with_reducible rfl)))
                clear hSh; intro hSh
                try simp only [getElem_toArray, getElem_cons_succ, getElem_cons_zero, Act.put, setIfInBounds_toArray, set_cons_zero, set_cons_succ]
                refine wpAnyT_take (i := 3) (n := 80) (v := ?vv3_38) (fun w' => Wi Kn w w' gw x y (T.SA i) (T.SB j) (.slice (some ad) a cA) (.slice RB b cB) tA tB s) rfl (by kernel_rfl) (by kernel_rfl) (by kernel_rfl) (fun _ _ _ h => h) ⟨by decide, .inr ⟨by kernel_rfl, by kernel_rfl, rfl⟩⟩ hSh (Or.inl ⟨by rfl, ?yy3_38⟩) (by assumption) ?rr3_38
                case yy3_38 => (intro w hSw; (obtain ⟨c0, c1, c2, c3, c5, f2, f3, f5⟩ := hSw.cells; unfold ptr at c0 c1); (try simp only [getElem_toArray, getElem_cons_succ, getElem_cons_zero, Act.put, setIfInBounds_toArray, set_cons_zero, set_cons_succ]); go_simp; (try (with_reducible rfl)))
                clear hSh; intro hSh
                try simp only [getElem_toArray, getElem_cons_succ, getElem_cons_zero, Act.put, setIfInBounds_toArray, set_cons_zero, set_cons_succ]
                refine wpAnyT_take (i := 4) (n := 80) (v := ?vv4_39) (fun w' => Wi Kn w w' gw x y (T.SA i) (T.SB j) (.slice (some ad) a cA) (.slice RB b cB) tA tB s) rfl (by kernel_rfl) (by kernel_rfl) (by kernel_rfl) (fun _ _ _ h => h) ⟨by decide, .inr ⟨by kernel_rfl, by kernel_rfl, rfl⟩⟩ hSh (Or.inl ⟨by rfl, ?yy4_39⟩) (by assumption) ?rr4_39
                case yy4_39 => (intro w hSw; (skip); (try simp only [getElem_toArray, getElem_cons_succ, getElem_cons_zero, Act.put, setIfInBounds_toArray, set_cons_zero, set_cons_succ]); go_simp; (try (with_reducible rfl)))
                clear hSh; intro hSh
                try simp only [getElem_toArray, getElem_cons_succ, getElem_cons_zero, Act.put, setIfInBounds_toArray, set_cons_zero, set_cons_succ]
                refine wpAnyT_take (i := 5) (n := 80) (v := ?vv5_40) (fun w' => Wi Kn w w' gw x y (T.SA i) (T.SB j) (.slice (some ad) a cA) (.slice RB b cB) tA tB s) rfl (by kernel_rfl) (by kernel_rfl) (by kernel_rfl) (fun _ _ _ h => h) ⟨by decide, .inr ⟨by kernel_rfl, by kernel_rfl, rfl⟩⟩ hSh (Or.inl ⟨by rfl, ?yy5_40⟩) (by assumption) ?rr5_40
                case yy5_40 => (intro w hSw; (skip); (try simp only [getElem_toArray, getElem_cons_succ, getElem_cons_zero, Act.put, setIfInBounds_toArray, set_cons_zero, set_cons_succ]); go_simp; (try (with_reducible rfl)))
                clear hSh; intro hSh
                try simp only [getElem_toArray, getElem_cons_succ, getElem_cons_zero, Act.put, setIfInBounds_toArray, set_cons_zero, set_cons_succ]
                refine wpAnyT_take (i := 6) (n := 80) (v := ?vv6_41) (fun w' => Wi Kn w w' gw x y (T.SA i) (T.SB j) (.slice (some ad) a cA) (.slice RB b cB) tA tB s) rfl (by kernel_rfl) (by kernel_rfl) (by kernel_rfl) (fun _ _ _ h => h) ⟨by decide, .inr ⟨by kernel_rfl, by kernel_rfl, rfl⟩⟩ hSh (Or.inl ⟨by rfl, ?yy6_41⟩) (by assumption) ?rr6_41
                case yy6_41 => (intro w hSw; (skip); (try simp only [getElem_toArray, getElem_cons_succ, getElem_cons_zero, Act.put, setIfInBounds_toArray, set_cons_zero, set_cons_succ]); go_simp; (try (with_reducible rfl)))
                clear hSh; intro hSh
                try simp only [getElem_toArray, getElem_cons_succ, getElem_cons_zero, Act.put, setIfInBounds_toArray, set_cons_zero, set_cons_succ]
                refine wpAnyT_take (i := 7) (n := 80) (v := ?vv7_42) (fun w' => Wi Kn w w' gw x y (T.SA i) (T.SB j) (.slice (some ad) a cA) (.slice RB b cB) tA tB s) rfl (by kernel_rfl) (by kernel_rfl) (by kernel_rfl) (fun _ _ _ h => h) ⟨by decide, .inr ⟨by kernel_rfl, by kernel_rfl, rfl⟩⟩ hSh (Or.inl ⟨by rfl, ?yy7_42⟩) (by assumption) ?rr7_42
                case yy7_42 => (intro w hSw; (obtain ⟨c0, c1, c2, c3, c5, f2, f3, f5⟩ := hSw.cells); (try simp only [getElem_toArray, getElem_cons_succ, getElem_cons_zero, Act.put, setIfInBounds_toArray, set_cons_zero, set_cons_succ]); go_simp; (try (with_reducible rfl)))
                clear hSh; intro hSh
                try simp only [getElem_toArray, getElem_cons_succ, getElem_cons_zero, Act.put, setIfInBounds_toArray, set_cons_zero, set_cons_succ]
                refine wpAnyT_take (i := 8) (n := 80) (v := ?vv8_43) (fun w' => Wi Kn w w' gw x y (T.SA i) (T.SB j) (.slice (some ad) a cA) (.slice RB b cB) tA tB s) rfl (by kernel_rfl) (by kernel_rfl) (by kernel_rfl) (fun _ _ _ h => h) ⟨by decide, .inr ⟨by kernel_rfl, by kernel_rfl, rfl⟩⟩ hSh (Or.inl ⟨by rfl, ?yy8_43⟩) (by assumption) ?rr8_43
                case yy8_43 => (intro w hSw; (skip); (try simp only [getElem_toArray, getElem_cons_succ, getElem_cons_zero, Act.put, setIfInBounds_toArray, set_cons_zero, set_cons_succ]); go_simp; (try (with_reducible rfl)))
                clear hSh; intro hSh
                try simp only [getElem_toArray, getElem_cons_succ, getElem_cons_zero, Act.put, setIfInBounds_toArray, set_cons_zero, set_cons_succ]
                refine wpAnyT_take (i := 9) (n := 80) (v := ?vv9_44) (fun w' => Wi Kn w w' gw x y (T.SA i) (T.SB j) (.slice (some ad) a cA) (.slice RB b cB) tA tB s) rfl (by kernel_rfl) (by kernel_rfl) (by kernel_rfl) (fun _ _ _ h => h) ⟨by decide, .inr ⟨by kernel_rfl, by kernel_rfl, rfl⟩⟩ hSh (Or.inl ⟨by rfl, ?yy9_44⟩) (by assumption) ?rr9_44
                case yy9_44 => (intro w hSw; (obtain ⟨d0, d1, d2⟩ := HPd.out _ hSw); (try simp only [getElem_toArray, getElem_cons_succ, getElem_cons_zero, Act.put, setIfInBounds_toArray, set_cons_zero, set_cons_succ]); go_simp; (try (with_reducible rfl)))
                clear hSh; intro hSh
                try simp only [getElem_toArray, getElem_cons_succ, getElem_cons_zero, Act.put, setIfInBounds_toArray, set_cons_zero, set_cons_succ]
                refine wpAnyT_take (i := 10) (n := 80) (v := ?vv10_45) (fun w' => Wi Kn w w' gw x y (T.SA i) (T.SB j) (.slice (some ad) a cA) (.slice RB b cB) tA tB s) rfl (by kernel_rfl) (by kernel_rfl) (by kernel_rfl) (fun _ _ _ h => h) ⟨by decide, .inr ⟨by kernel_rfl, by kernel_rfl, rfl⟩⟩ hSh (Or.inl ⟨by rfl, ?yy10_45⟩) (by assumption) ?rr10_45
                case yy10_45 => (intro w hSw; (skip); (try simp only [getElem_toArray, getElem_cons_succ, getElem_cons_zero, Act.put, setIfInBounds_toArray, set_cons_zero, set_cons_succ]); go_simp; (try (with_reducible rfl)))
                clear hSh; intro hSh
                try simp only [getElem_toArray, getElem_cons_succ, getElem_cons_zero, Act.put, setIfInBounds_toArray, set_cons_zero, set_cons_succ]
                refine wpAnyT_ready (rs := [11, 16]) (by kernel_rfl) (by simp) ?_
                refine AllReadyT.cons (o := _) (fun w' => Wi Kn w w' gw x y (T.SA i) (T.SB j) (.slice (some ad) a cA) (.slice RB b cB) tA tB s) (fun _ => cond_ahead (by kernel_rfl)) (by kernel_rfl) hSh rfl (fun K hK => ?_) (AllReadyT.cons (o := _) (fun w' => Wi Kn w w' gw x y (T.SA i) (T.SB j) (.slice (some ad) a cA) (.slice RB b cB) tA tB s) (fun _ => cond_ahead (by kernel_rfl)) (by kernel_rfl) hSh rfl (fun K hK => ?_) AllReadyT.nil)
                · try simp only [getElem_toArray, getElem_cons_succ, getElem_cons_zero, Act.put, setIfInBounds_toArray, set_cons_zero, set_cons_succ]
                  go_simp
                  refine (next_any hHeld).mono ?_
                  rintro e y1 ⟨d, rfl, h1, hm1⟩
                  clear hSh
                  refine hK.out _ _ h1 (fun _ hSh => ?_)
                  clear hK K
                  try simp only [getElem_toArray, getElem_cons_succ, getElem_cons_zero, Act.put, setIfInBounds_toArray, set_cons_zero, set_cons_succ]
                  refine wpAnyT_ready (rs := [12, 16]) (by kernel_rfl) (by simp) ?_
                  refine AllReadyT.cons (o := _) (fun w' => Wi Kn w w' gw x y (T.SA (i + 1)) (T.SB j) (.slice (some ad) a cA) (.slice RB b cB) tA tB s) (fun _ => cond_at (by kernel_rfl)) (by kernel_rfl) hSh rfl (fun K hK => ?_) (AllReadyT.cons (o := _) (fun w' => Wi Kn w w' gw x y (T.SA i) (T.SB j) (.slice (some ad) a cA) (.slice RB b cB) tA tB s) (fun _ => cond_ahead (by kernel_rfl)) (by kernel_rfl) hSh rfl (fun K hK => ?_) AllReadyT.nil)
                  · try simp only [getElem_toArray, getElem_cons_succ, getElem_cons_zero, Act.put, setIfInBounds_toArray, set_cons_zero, set_cons_succ]
                    go_simp
                    refine (HG.out d _ _ _ _ h1.sa).mono ?_
                    rintro e y2 ⟨TT, PP, bb, RR, rr, rfl, hrow2, hs2, hm2⟩
                    have h2 : Wi Kn w y2 gw x y (T.SA (i + 1)) (T.SB j) (.slice (some ad) a cA) (.slice RB b cB) tA tB s := h1.turnA hs2 hm2
                    rw [HL.out]
                    clear hSh
                    refine hK.out _ _ h2 (fun _ hSh => ?_)
                    clear hK K
                    try simp only [getElem_toArray, getElem_cons_succ, getElem_cons_zero, Act.put, setIfInBounds_toArray, set_cons_zero, set_cons_succ]
                    refine wpAnyT_take (i := 13) (n := 80) (v := ?vv13_46) (fun w' => Wi Kn w w' gw x y (T.SA (i + 1)) (T.SB j) (.slice (some ad) a cA) (.slice RB b cB) tA tB s) rfl (by kernel_rfl) (by kernel_rfl) (by kernel_rfl) (fun _ _ _ h => h) ⟨by decide, .inl ⟨by kernel_rfl, rfl⟩⟩ hSh (Or.inl ⟨by rfl, ?yy13_46⟩) (by assumption) ?rr13_46
                    case yy13_46 => (intro w hSw; (skip); (try simp only [getElem_toArray, getElem_cons_succ, getElem_cons_zero, Act.put, setIfInBounds_toArray, set_cons_zero, set_cons_succ]); go_simp; (try (with_reducible rfl)))
                    clear hSh; intro hSh
                    try simp only [getElem_toArray, getElem_cons_succ, getElem_cons_zero, Act.put, setIfInBounds_toArray, set_cons_zero, set_cons_succ]
                    refine wpAnyT_take (i := 14) (n := 80) (v := ?vv14_47) (fun w' => Wi Kn w w' gw x y (T.SA (i + 1)) (T.SB j) (.slice (some ad) a cA) (.slice RB b cB) tA tB s) rfl (by kernel_rfl) (by kernel_rfl) (by kernel_rfl) (fun _ _ _ h => h) ⟨by decide, .inl ⟨by kernel_rfl, rfl⟩⟩ hSh (Or.inl ⟨by rfl, ?yy14_47⟩) (by assumption) ?rr14_47
                    case yy14_47 => (intro w hSw; (skip); (try simp only [getElem_toArray, getElem_cons_succ, getElem_cons_zero, Act.put, setIfInBounds_toArray, set_cons_zero, set_cons_succ]); go_simp; (try (with_reducible rfl)))
                    clear hSh; intro hSh
                    try simp only [getElem_toArray, getElem_cons_succ, getElem_cons_zero, Act.put, setIfInBounds_toArray, set_cons_zero, set_cons_succ]
                    refine wpAnyT_take (i := 15) (n := 80) (v := ?vv15_48) (fun w' => Wi Kn w w' gw x y (T.SA (i + 1)) (T.SB j) (.slice (some ad) a cA) (.slice RB b cB) tA tB s) rfl (by kernel_rfl) (by kernel_rfl) (by kernel_rfl) (fun _ _ _ h => h) ⟨by decide, .inl ⟨by kernel_rfl, rfl⟩⟩ hSh (Or.inl ⟨by rfl, ?yy15_48⟩) (by assumption) ?rr15_48
                    case yy15_48 => (intro w hSw; (skip); (try simp only [getElem_toArray, getElem_cons_succ, getElem_cons_zero, Act.put, setIfInBounds_toArray, set_cons_zero, set_cons_succ]); go_simp; (try (with_reducible rfl)))
                    clear hSh; intro hSh
                    try simp only [getElem_toArray, getElem_cons_succ, getElem_cons_zero, Act.put, setIfInBounds_toArray, set_cons_zero, set_cons_succ]
                    refine wpAnyT_ready (rs := [16]) (by kernel_rfl) (by simp) ?_
                    refine AllReadyT.cons (o := _) (fun w' => Wi Kn w w' gw x y (T.SA (i + 1)) (T.SB j) (.slice (some ad) a cA) (.slice RB b cB) tA tB s) (fun _ => cond_at (by kernel_rfl)) (by kernel_rfl) hSh rfl (fun K hK => ?_) AllReadyT.nil
                    try simp only [getElem_toArray, getElem_cons_succ, getElem_cons_zero, Act.put, setIfInBounds_toArray, set_cons_zero, set_cons_succ]
                    go_simp
                    clear hSh
                    refine hK.out _ _ (h2.alloc _) (fun _ hSh => ?_)
                    clear hK K
                    try simp only [getElem_toArray, getElem_cons_succ, getElem_cons_zero, Act.put, setIfInBounds_toArray, set_cons_zero, set_cons_succ]
                    refine wpAnyT_ready (rs := [17]) (by kernel_rfl) (by simp) ?_
                    refine AllReadyT.cons (o := _) (fun w' => Wi Kn w w' gw x y (T.SA (i + 1)) (T.SB j) (.slice (some ad) a cA) (.slice RB b cB) tA tB s) (fun _ => cond_at (by kernel_rfl)) (by kernel_rfl) hSh rfl (fun K hK => ?_) AllReadyT.nil
                    try simp only [getElem_toArray, getElem_cons_succ, getElem_cons_zero, Act.put, setIfInBounds_toArray, set_cons_zero, set_cons_succ]
                    go_simp
                    clear hSh
                    refine hK.out _ _ (h2.alloc _) (fun _ hSh => ?_)
                    clear hK K
                    try simp only [getElem_toArray, getElem_cons_succ, getElem_cons_zero, Act.put, setIfInBounds_toArray, set_cons_zero, set_cons_succ]
                    refine wpAnyT_take (i := 18) (n := 80) (v := ?vv18_49) (fun w' => Wi Kn w w' gw x y (T.SA (i + 1)) (T.SB j) (.slice (some ad) a cA) (.slice RB b cB) tA tB s) rfl (by kernel_rfl) (by kernel_rfl) (by kernel_rfl) (fun _ _ _ h => h) ⟨by decide, .inl ⟨by kernel_rfl, rfl⟩⟩ hSh (Or.inl ⟨by rfl, ?yy18_49⟩) (by assumption) ?rr18_49
                    case yy18_49 => (intro w hSw; (skip); (try simp only [getElem_toArray, getElem_cons_succ, getElem_cons_zero, Act.put, setIfInBounds_toArray, set_cons_zero, set_cons_succ]); go_simp; (try (with_reducible rfl)))
                    clear hSh; intro hSh
                    try simp only [getElem_toArray, getElem_cons_succ, getElem_cons_zero, Act.put, setIfInBounds_toArray, set_cons_zero, set_cons_succ]
                    refine wpAnyT_done (by kernel_rfl) ?_ _
                    go_wp2
                    go_meet
                    refine ⟨_, RR, rr, TT, PP, bb, rfl, h2.alloc _, blk_new y2 [.slice RR L rr, .int .u16 TT, .int .u16 PP, .bool bb] _, ?_, ?_, ?_, ?_⟩
                    · show _ ≠ _; have := h2.lt; omega
                    · intro ad' e1 e2; have h5 := (hrow2.lt ad'.block (by rw [e1]; rfl)).1; have h6 := h1.lt; omega
                    · exact (pks_own hrow2).below ((Below.refl _ y2).alloc (Nat.le_refl _) _)
                    · exact own_none hrow2
                  · try simp only [getElem_toArray, getElem_cons_succ, getElem_cons_zero, Act.put, setIfInBounds_toArray, set_cons_zero, set_cons_succ]
                    go_simp
                    have HFr := Lib.hid h1.frs
                    have h2 := h1.alloc (.cells #[.slice none 0 0, .int .u16 0, .int .u16 0, .bool false] 51)
                    have hB2 := blk_new y1 [.slice none 0 0, .int .u16 0, .int .u16 0, .bool false] 51
                    obtain ⟨y2, hy2⟩ : ∃ y2, y1.alloc (.cells #[.slice none 0 0, .int .u16 0, .int .u16 0, .bool false] 51) = y2 := ⟨_, rfl⟩
                    have hgx : y1.heap.size < y2.heap.size := by rw [← hy2, World.size_alloc]; exact Nat.lt_succ_self _
                    rw [hy2] at h2 hB2 ⊢
                    have hgw := h1.lt
                    have hxo := h1.sa.old
                    clear hSh
                    refine hK.out _ _ h2 (fun _ hSh => ?_)
                    clear hK K
                    try simp only [getElem_toArray, getElem_cons_succ, getElem_cons_zero, Act.put, setIfInBounds_toArray, set_cons_zero, set_cons_succ]
                    refine wpAnyT_ready (rs := [12]) (by kernel_rfl) (by simp) ?_
                    refine AllReadyT.cons (o := _) (fun w' => Wi Kn w w' gw x y (T.SA (i + 1)) (T.SB j) (.slice (some ad) a cA) (.slice RB b cB) tA tB s) (fun _ => cond_at (by kernel_rfl)) (by kernel_rfl) hSh rfl (fun K hK => ?_) AllReadyT.nil
                    try simp only [getElem_toArray, getElem_cons_succ, getElem_cons_zero, Act.put, setIfInBounds_toArray, set_cons_zero, set_cons_succ]
                    go_simp
                    refine (HG.out d _ _ _ _ h2.sa).mono ?_
                    rintro e y3 ⟨TT, PP, bb, RR, rr, rfl, hrow3, hs3, hm3⟩
                    have h3 : Wi Kn w y3 gw x y (T.SA (i + 1)) (T.SB j) (.slice (some ad) a cA) (.slice RB b cB) tA tB s := h2.turnA hs3 hm3
                    rw [HL.out]
                    clear hSh
                    refine hK.out _ _ h3 (fun _ hSh => ?_)
                    clear hK K
                    try simp only [getElem_toArray, getElem_cons_succ, getElem_cons_zero, Act.put, setIfInBounds_toArray, set_cons_zero, set_cons_succ]
                    have HB3 : Blk y3 y1.heap.size [.slice none 0 0, .int .u16 0, .int .u16 0, .bool false] 51 := hB2.moves hm3 (fun e => by have := hxo _ e; omega)
                    refine wpAnyT_take (i := 13) (n := 80) (v := ?vv13_50) (fun w' => Wi Kn w w' gw x y (T.SA (i + 1)) (T.SB j) (.slice (some ad) a cA) (.slice RB b cB) tA tB s) rfl (by kernel_rfl) (by kernel_rfl) (by kernel_rfl) (fun _ _ _ h => h) ⟨by decide, .inl ⟨by kernel_rfl, rfl⟩⟩ hSh (Or.inl ⟨by rfl, ?yy13_50⟩) (by assumption) ?rr13_50
                    case yy13_50 => (intro w hSw; (skip); (try simp only [getElem_toArray, getElem_cons_succ, getElem_cons_zero, Act.put, setIfInBounds_toArray, set_cons_zero, set_cons_succ]); go_simp; (try (with_reducible rfl)))
                    clear hSh; intro hSh
                    try simp only [getElem_toArray, getElem_cons_succ, getElem_cons_zero, Act.put, setIfInBounds_toArray, set_cons_zero, set_cons_succ]
                    refine wpAnyT_take (i := 14) (n := 80) (v := ?vv14_51) (fun w' => Wi Kn w w' gw x y (T.SA (i + 1)) (T.SB j) (.slice (some ad) a cA) (.slice RB b cB) tA tB s) rfl (by kernel_rfl) (by kernel_rfl) (by kernel_rfl) (fun _ _ _ h => h) ⟨by decide, .inl ⟨by kernel_rfl, rfl⟩⟩ hSh (Or.inl ⟨by rfl, ?yy14_51⟩) (by assumption) ?rr14_51
                    case yy14_51 => (intro w hSw; (skip); (try simp only [getElem_toArray, getElem_cons_succ, getElem_cons_zero, Act.put, setIfInBounds_toArray, set_cons_zero, set_cons_succ]); go_simp; (try (with_reducible rfl)))
                    clear hSh; intro hSh
                    try simp only [getElem_toArray, getElem_cons_succ, getElem_cons_zero, Act.put, setIfInBounds_toArray, set_cons_zero, set_cons_succ]
                    refine wpAnyT_take (i := 15) (n := 80) (v := ?vv15_52) (fun w' => Wi Kn w w' gw x y (T.SA (i + 1)) (T.SB j) (.slice (some ad) a cA) (.slice RB b cB) tA tB s) rfl (by kernel_rfl) (by kernel_rfl) (by kernel_rfl) (fun _ _ _ h => h) ⟨by decide, .inl ⟨by kernel_rfl, rfl⟩⟩ hSh (Or.inl ⟨by rfl, ?yy15_52⟩) (by assumption) ?rr15_52
                    case yy15_52 => (intro w hSw; (skip); (try simp only [getElem_toArray, getElem_cons_succ, getElem_cons_zero, Act.put, setIfInBounds_toArray, set_cons_zero, set_cons_succ]); go_simp; (try (with_reducible rfl)))
                    clear hSh; intro hSh
                    try simp only [getElem_toArray, getElem_cons_succ, getElem_cons_zero, Act.put, setIfInBounds_toArray, set_cons_zero, set_cons_succ]
                    have q0 := HB3.at_ 0
                    have q1 := HB3.at_ 1
                    have q2 := HB3.at_ 2
                    have q3 := HB3.at_ 3
                    have g0 := HB3.frozen 0
                    have g1 := HB3.frozen 1
                    have g2 := HB3.frozen 2
                    have g3 := HB3.frozen 3
                    simp only [List.getElem?_cons_zero, List.getElem?_cons_succ] at q0 q1 q2 q3
                    have hO := out_put HB3 (.slice RR L rr) TT PP bb
                    have hF : Wi Kn w ((((y3.setCell ⟨y1.heap.size, 0, none⟩ (.slice RR L rr)).setCell ⟨y1.heap.size, 1, none⟩ (.int .u16 TT)).setCell ⟨y1.heap.size, 2, none⟩ (.int .u16 PP)).setCell ⟨y1.heap.size, 3, none⟩ (.bool bb)) gw x y (T.SA (i + 1)) (T.SB j) (.slice (some ad) a cA) (.slice RB b cB) tA tB s := h3.fresh hO.2 HFr.out
                    refine wpAnyT_ready (rs := [17]) (by kernel_rfl) (by simp) ?_
                    refine AllReadyT.cons (o := _) (fun w' => Wi Kn w w' gw x y (T.SA (i + 1)) (T.SB j) (.slice (some ad) a cA) (.slice RB b cB) tA tB s) (fun _ => cond_at (by kernel_rfl)) (by kernel_rfl) hSh rfl (fun K hK => ?_) AllReadyT.nil
                    try simp only [getElem_toArray, getElem_cons_succ, getElem_cons_zero, Act.put, setIfInBounds_toArray, set_cons_zero, set_cons_succ]
                    go_simp
                    clear hSh
                    refine hK.out _ _ hF (fun _ hSh => ?_)
                    clear hK K
                    try simp only [getElem_toArray, getElem_cons_succ, getElem_cons_zero, Act.put, setIfInBounds_toArray, set_cons_zero, set_cons_succ]
                    refine wpAnyT_take (i := 18) (n := 80) (v := ?vv18_53) (fun w' => Wi Kn w w' gw x y (T.SA (i + 1)) (T.SB j) (.slice (some ad) a cA) (.slice RB b cB) tA tB s) rfl (by kernel_rfl) (by kernel_rfl) (by kernel_rfl) (fun _ _ _ h => h) ⟨by decide, .inl ⟨by kernel_rfl, rfl⟩⟩ hSh (Or.inl ⟨by rfl, ?yy18_53⟩) (by assumption) ?rr18_53
                    case yy18_53 => (intro w hSw; (skip); (try simp only [getElem_toArray, getElem_cons_succ, getElem_cons_zero, Act.put, setIfInBounds_toArray, set_cons_zero, set_cons_succ]); go_simp; (try (with_reducible rfl)))
                    clear hSh; intro hSh
                    try simp only [getElem_toArray, getElem_cons_succ, getElem_cons_zero, Act.put, setIfInBounds_toArray, set_cons_zero, set_cons_succ]
                    refine wpAnyT_done (by kernel_rfl) ?_ _
                    go_wp2
                    go_meet
                    refine ⟨_, RR, rr, TT, PP, bb, rfl, hF, hO.1, ?_, ?_, ?_, ?_⟩
                    · exact HFr.out.2.2.2.2.1
                    · intro ad' e1 e2; have h5 := (hrow3.lt ad'.block (by rw [e1]; rfl)).1; omega
                    · exact (pks_own hrow3).moves hO.2 (fun ad' e1 e2 => by have h5 := (hrow3.lt ad'.block (by rw [e1]; rfl)).1; omega)
                    · exact own_none hrow3
                · try simp only [getElem_toArray, getElem_cons_succ, getElem_cons_zero, Act.put, setIfInBounds_toArray, set_cons_zero, set_cons_succ]
                  go_simp
                  have HFr := Lib.hid HW.out.frs
                  have h1 := (HW.out.alloc (.cells #[.slice none 0 0, .int .u16 0, .int .u16 0, .bool false] 51)).drew
                  have hB1 := (blk_new wc [.slice none 0 0, .int .u16 0, .int .u16 0, .bool false] 51).drew
                  obtain ⟨y1, hy1⟩ : ∃ y1, (wc.alloc (.cells #[.slice none 0 0, .int .u16 0, .int .u16 0, .bool false] 51)).drew = y1 := ⟨_, rfl⟩
                  have hgx : wc.heap.size < y1.heap.size := by rw [← hy1]; show _ < (wc.alloc _).heap.size; rw [World.size_alloc]; exact Nat.lt_succ_self _
                  replace hB1 : Blk y1 wc.heap.size [.slice none 0 0, .int .u16 0, .int .u16 0, .bool false] 51 := by rw [← hy1]; exact hB1
                  rw [hy1] at h1 ⊢
                  have hgw := HW.out.lt
                  have hxo := HW.out.sa.old
                  clear hSh
                  refine hK.out _ _ h1 (fun _ hSh => ?_)
                  clear hK K
                  try simp only [getElem_toArray, getElem_cons_succ, getElem_cons_zero, Act.put, setIfInBounds_toArray, set_cons_zero, set_cons_succ]
                  refine wpAnyT_ready (rs := [11]) (by kernel_rfl) (by simp) ?_
                  refine AllReadyT.cons (o := _) (fun w' => Wi Kn w w' gw x y (T.SA i) (T.SB j) (.slice (some ad) a cA) (.slice RB b cB) tA tB s) (fun _ => cond_ahead (by kernel_rfl)) (by kernel_rfl) hSh rfl (fun K hK => ?_) AllReadyT.nil
                  try simp only [getElem_toArray, getElem_cons_succ, getElem_cons_zero, Act.put, setIfInBounds_toArray, set_cons_zero, set_cons_succ]
                  go_simp
                  refine (next_any h1).mono ?_
                  rintro e y2 ⟨d, rfl, h2, hm2⟩
                  clear hSh
                  refine hK.out _ _ h2 (fun _ hSh => ?_)
                  clear hK K
                  try simp only [getElem_toArray, getElem_cons_succ, getElem_cons_zero, Act.put, setIfInBounds_toArray, set_cons_zero, set_cons_succ]
                  have hB2 : Blk y2 wc.heap.size [.slice none 0 0, .int .u16 0, .int .u16 0, .bool false] 51 := hB1.moves hm2 (by omega)
                  have hs2 := hm2.size
                  refine wpAnyT_ready (rs := [12]) (by kernel_rfl) (by simp) ?_
                  refine AllReadyT.cons (o := _) (fun w' => Wi Kn w w' gw x y (T.SA (i + 1)) (T.SB j) (.slice (some ad) a cA) (.slice RB b cB) tA tB s) (fun _ => cond_at (by kernel_rfl)) (by kernel_rfl) hSh rfl (fun K hK => ?_) AllReadyT.nil
                  try simp only [getElem_toArray, getElem_cons_succ, getElem_cons_zero, Act.put, setIfInBounds_toArray, set_cons_zero, set_cons_succ]
                  go_simp
                  refine (HG.out d _ _ _ _ h2.sa).mono ?_
                  rintro e y3 ⟨TT, PP, bb, RR, rr, rfl, hrow3, hs3, hm3⟩
                  have h3 : Wi Kn w y3 gw x y (T.SA (i + 1)) (T.SB j) (.slice (some ad) a cA) (.slice RB b cB) tA tB s := h2.turnA hs3 hm3
                  rw [HL.out]
                  clear hSh
                  refine hK.out _ _ h3 (fun _ hSh => ?_)
                  clear hK K
                  try simp only [getElem_toArray, getElem_cons_succ, getElem_cons_zero, Act.put, setIfInBounds_toArray, set_cons_zero, set_cons_succ]
                  have HB3 : Blk y3 wc.heap.size [.slice none 0 0, .int .u16 0, .int .u16 0, .bool false] 51 := hB2.moves hm3 (fun e => by have := hxo _ e; omega)
                  refine wpAnyT_take (i := 13) (n := 80) (v := ?vv13_54) (fun w' => Wi Kn w w' gw x y (T.SA (i + 1)) (T.SB j) (.slice (some ad) a cA) (.slice RB b cB) tA tB s) rfl (by kernel_rfl) (by kernel_rfl) (by kernel_rfl) (fun _ _ _ h => h) ⟨by decide, .inl ⟨by kernel_rfl, rfl⟩⟩ hSh (Or.inl ⟨by rfl, ?yy13_54⟩) (by assumption) ?rr13_54
                  case yy13_54 => (intro w hSw; (skip); (try simp only [getElem_toArray, getElem_cons_succ, getElem_cons_zero, Act.put, setIfInBounds_toArray, set_cons_zero, set_cons_succ]); go_simp; (try (with_reducible rfl)))
                  clear hSh; intro hSh
                  try simp only [getElem_toArray, getElem_cons_succ, getElem_cons_zero, Act.put, setIfInBounds_toArray, set_cons_zero, set_cons_succ]
                  refine wpAnyT_take (i := 14) (n := 80) (v := ?vv14_55) (fun w' => Wi Kn w w' gw x y (T.SA (i + 1)) (T.SB j) (.slice (some ad) a cA) (.slice RB b cB) tA tB s) rfl (by kernel_rfl) (by kernel_rfl) (by kernel_rfl) (fun _ _ _ h => h) ⟨by decide, .inl ⟨by kernel_rfl, rfl⟩⟩ hSh (Or.inl ⟨by rfl, ?yy14_55⟩) (by assumption) ?rr14_55
                  case yy14_55 => (intro w hSw; (skip); (try simp only [getElem_toArray, getElem_cons_succ, getElem_cons_zero, Act.put, setIfInBounds_toArray, set_cons_zero, set_cons_succ]); go_simp; (try (with_reducible rfl)))
                  clear hSh; intro hSh
                  try simp only [getElem_toArray, getElem_cons_succ, getElem_cons_zero, Act.put, setIfInBounds_toArray, set_cons_zero, set_cons_succ]
                  refine wpAnyT_take (i := 15) (n := 80) (v := ?vv15_56) (fun w' => Wi Kn w w' gw x y (T.SA (i + 1)) (T.SB j) (.slice (some ad) a cA) (.slice RB b cB) tA tB s) rfl (by kernel_rfl) (by kernel_rfl) (by kernel_rfl) (fun _ _ _ h => h) ⟨by decide, .inl ⟨by kernel_rfl, rfl⟩⟩ hSh (Or.inl ⟨by rfl, ?yy15_56⟩) (by assumption) ?rr15_56
                  case yy15_56 => (intro w hSw; (skip); (try simp only [getElem_toArray, getElem_cons_succ, getElem_cons_zero, Act.put, setIfInBounds_toArray, set_cons_zero, set_cons_succ]); go_simp; (try (with_reducible rfl)))
                  clear hSh; intro hSh
                  try simp only [getElem_toArray, getElem_cons_succ, getElem_cons_zero, Act.put, setIfInBounds_toArray, set_cons_zero, set_cons_succ]
                  have q0 := HB3.at_ 0
                  have q1 := HB3.at_ 1
                  have q2 := HB3.at_ 2
                  have q3 := HB3.at_ 3
                  have g0 := HB3.frozen 0
                  have g1 := HB3.frozen 1
                  have g2 := HB3.frozen 2
                  have g3 := HB3.frozen 3
                  simp only [List.getElem?_cons_zero, List.getElem?_cons_succ] at q0 q1 q2 q3
                  have hO := out_put HB3 (.slice RR L rr) TT PP bb
                  have hF : Wi Kn w ((((y3.setCell ⟨wc.heap.size, 0, none⟩ (.slice RR L rr)).setCell ⟨wc.heap.size, 1, none⟩ (.int .u16 TT)).setCell ⟨wc.heap.size, 2, none⟩ (.int .u16 PP)).setCell ⟨wc.heap.size, 3, none⟩ (.bool bb)) gw x y (T.SA (i + 1)) (T.SB j) (.slice (some ad) a cA) (.slice RB b cB) tA tB s := h3.fresh hO.2 HFr.out
                  refine wpAnyT_ready (rs := [17]) (by kernel_rfl) (by simp) ?_
                  refine AllReadyT.cons (o := _) (fun w' => Wi Kn w w' gw x y (T.SA (i + 1)) (T.SB j) (.slice (some ad) a cA) (.slice RB b cB) tA tB s) (fun _ => cond_at (by kernel_rfl)) (by kernel_rfl) hSh rfl (fun K hK => ?_) AllReadyT.nil
                  try simp only [getElem_toArray, getElem_cons_succ, getElem_cons_zero, Act.put, setIfInBounds_toArray, set_cons_zero, set_cons_succ]
                  go_simp
                  clear hSh
                  refine hK.out _ _ hF (fun _ hSh => ?_)
                  clear hK K
                  try simp only [getElem_toArray, getElem_cons_succ, getElem_cons_zero, Act.put, setIfInBounds_toArray, set_cons_zero, set_cons_succ]
                  refine wpAnyT_take (i := 18) (n := 80) (v := ?vv18_57) (fun w' => Wi Kn w w' gw x y (T.SA (i + 1)) (T.SB j) (.slice (some ad) a cA) (.slice RB b cB) tA tB s) rfl (by kernel_rfl) (by kernel_rfl) (by kernel_rfl) (fun _ _ _ h => h) ⟨by decide, .inl ⟨by kernel_rfl, rfl⟩⟩ hSh (Or.inl ⟨by rfl, ?yy18_57⟩) (by assumption) ?rr18_57
                  case yy18_57 => (intro w hSw; (skip); (try simp only [getElem_toArray, getElem_cons_succ, getElem_cons_zero, Act.put, setIfInBounds_toArray, set_cons_zero, set_cons_succ]); go_simp; (try (with_reducible rfl)))
                  clear hSh; intro hSh
                  try simp only [getElem_toArray, getElem_cons_succ, getElem_cons_zero, Act.put, setIfInBounds_toArray, set_cons_zero, set_cons_succ]
                  refine wpAnyT_done (by kernel_rfl) ?_ _
                  go_wp2
                  go_meet
                  refine ⟨_, RR, rr, TT, PP, bb, rfl, hF, hO.1, ?_, ?_, ?_, ?_⟩
                  · exact HFr.out.2.2.2.2.1
                  · intro ad' e1 e2; have h5 := (hrow3.lt ad'.block (by rw [e1]; rfl)).1; omega
                  · exact (pks_own hrow3).moves hO.2 (fun ad' e1 e2 => by have h5 := (hrow3.lt ad'.block (by rw [e1]; rfl)).1; omega)
                  · exact own_none hrow3
            case rest =>
            obtain ⟨gX, RR, rr, TT, PP, bb, rfl, H3, HX, HXg, HRg, HR3, HRn⟩ := hcut
            clear HG HPd c0 c1 c2 c3 c5 f2 f3 f5 HW
            generalize wc = y3 at *
            obtain ⟨c0, c1, c2, c3, c5, f2, f3, f5⟩ := H3.out.cells
            have HPt : Hid (Pks y3 (some ⟨ad.block, ad.off + 3, none⟩) tl) := by
              have h5 := pks_tail (HPk.out _ _ _ H3.out)
              rw [show ad.add 3 = ⟨ad.block, ad.off + 3, none⟩ from by unfold Addr.add; simp] at h5
              exact h5
            go_upto_region 7 with (fail)
            go_cut [8] from 15 to 147 (fun u wx => u = .pointer (some ⟨gX, 0, none⟩) ∧ ∃ v, Hid (Wi Kn w wx gw x y (T.SA (i + 1)) (T.SB j) v (.slice RB b cB) tl tB s) ∧ Hid (Blk wx gX [.slice RR L rr, .int .u16 TT, .int .u16 PP, .bool bb] 51) ∧ Hid (Pks wx RR l))
            case first =>
              as_aux_lemma =>
                have hac : a ≤ cA ∧ cA ≤ maxLen := by
                  rcases H3.out.rA.2 with ⟨e, _⟩ | ⟨g9, cap9, cur9, e, _, _, h1, h2, _⟩
                  · cases e
                  · cases e
                    rw [Ha.out] at h1
                    exact ⟨h1, h2⟩
                have hac2 := hac.2
                unfold maxLen at hac2
                have hnil : tl = [] → Hid (Wi Kn w (y3.setCell ⟨gw, 2, none⟩ (.slice none 0 0)) gw x y (T.SA (i + 1)) (T.SB j) (.slice none 0 0) (.slice RB b cB) tl tB s ∧ Blk (y3.setCell ⟨gw, 2, none⟩ (.slice none 0 0)) gX [.slice RR L rr, .int .u16 TT, .int .u16 PP, .bool bb] 51 ∧ Pks (y3.setCell ⟨gw, 2, none⟩ (.slice none 0 0)) RR l) := by
                  rintro rfl
                  have hm := set1_moves y3 gw 2 (.slice none 0 0)
                  exact ⟨(H3.out.newA (l := []) ⟨rfl, rfl, rfl, Nat.le_refl _, fun _ _ _ => rfl⟩ (World.ownsRow_nil _ _ _ _) (.inl rfl)).1, HX.out.moves hm HXg.out, HR3.out.moves hm (HRg.out)⟩
                by_cases hc1 : cA = 1
                · have ha1 : a = 1 := by omega
                  have htn : tl = [] := List.eq_nil_of_length_eq_zero (by omega)
                  have hz := hnil htn
                  subst hc1
                  subst ha1
                  clear hnil hac hac2
                  go_wp2
                  go_meet
                  exact ⟨rfl, _, hz.out.1, hz.out.2.1, hz.out.2.2⟩
                · by_cases ha1 : a = 1
                  · have htn : tl = [] := List.eq_nil_of_length_eq_zero (by omega)
                    have hz := hnil htn
                    subst ha1
                    clear hnil hac
                    go_wp2
                    go_meet
                    exact ⟨rfl, _, hz.out.1, hz.out.2.1, hz.out.2.2⟩
                  · clear hnil
                    have hle : tl.length = a - 1 := by omega
                    have Hle := Lib.hid hle
                    clear hle
                    go_wp2_with (at_builtin; refine append_pks_at rfl _ _ 49 rfl w.heap.size 56 i0 _ 24 Tryz.underlying49 hi0 hz0 hz1 hz2 rfl _ 0 [] rfl (World.ownsRow_nil _ _ _ _) (some ⟨ad.block, ad.off + 3, none⟩) (a - 1) (cA - 1) tl Hle.out (fun e => by cases e) rfl HPt.out (by unfold maxLen; omega) (by omega) H3.out.hb.size ?_; intro v4 y4 hr4 hg4 hat4; rw [List.nil_append, Nat.zero_add, ← Hle.out] at hr4; obtain ⟨R4, q4, hv4⟩ := own_slice hr4; subst hv4; have HN4 := Lib.hid (H3.out.newA (l := tl) hg4 hr4 hat4); have hb4 : Below y3.heap.size y3 y4 := ⟨hg4.os, hg4.tape, hg4.output, hg4.size, fun k hk => hg4.block k hk (fun e => by cases e)⟩; have HX4 := Lib.hid (HX.out.callee hb4); have HR4 := Lib.hid (HR3.out.below hb4); clear hr4 hg4 hat4 hb4; obtain ⟨c0, c1, c2, c3, c5, f2, f3, f5⟩ := HN4.out.2.cells)
                    go_meet
                    have hm := set1_moves y4 gw 2 (.slice R4 tl.length q4)
                    exact ⟨rfl, _, HN4.out.1, HX4.out.moves hm HXg.out, HR4.out.moves hm HRg.out⟩
            case rest =>
            obtain ⟨rfl, v, HW4, HX4, HR4⟩ := hcut
            clear H3 HX HR3 HPt HPk c0 c1 c2 c3 c5 f2 f3 f5
            have HrO : Hid (wc.drew.ownsRow w.heap.size 56 3 (.slice RB b cB) b (pksV tB)) := by
              have h5 := HW4.out.drew.rB
              rw [Hb.out] at h5
              exact h5
            have HR5 : Hid (Pks wc.drew RR l) := HR4.out.below (Below.drewN' (Below.refl _ wc) 1)
            have hHeld8 : Wi Kn w wc.drew gw x y (T.SA (i + 1)) (T.SB j) v (.slice RB b cB) tl tB s ∧ Blk wc.drew gX [.slice RR L rr, .int .u16 TT, .int .u16 PP, .bool bb] 51 := ⟨HW4.out.drew, HX4.out.drew⟩
            go_upto_region 8 with (fail)
            go_cut [8] from 15 to 147 (fun _ wx => ∃ v6, Hid (Wi Kn w wx gw x y (T.SA (i + 1)) (T.SB j) v v6 tl (tB ++ l) s))
            case first =>
              as_aux_lemma =>
                refine wp_region_t 7 (fun w' => Wi Kn w w' gw x y (T.SA (i + 1)) (T.SB j) v (.slice RB b cB) tl tB s ∧ Blk w' gX [.slice RR L rr, .int .u16 TT, .int .u16 PP, .bool bb] 51) (fun _ => True) (by kernel_rfl) (fun hSh => ?_)
                refine wpAnyT_take (i := 1) (n := 80) (v := ?vv1_58) (fun w' => Wi Kn w w' gw x y (T.SA (i + 1)) (T.SB j) v (.slice RB b cB) tl tB s ∧ Blk w' gX [.slice RR L rr, .int .u16 TT, .int .u16 PP, .bool bb] 51) rfl (by kernel_rfl) (by kernel_rfl) (by kernel_rfl) (fun _ _ _ h => h) ⟨by decide, .inr ⟨by kernel_rfl, by kernel_rfl, rfl⟩⟩ hSh (Or.inl ⟨by rfl, ?yy1_58⟩) (by assumption) ?rr1_58
                case yy1_58 => (intro w hSw; (skip); (try simp only [getElem_toArray, getElem_cons_succ, getElem_cons_zero, Act.put, setIfInBounds_toArray, set_cons_zero, set_cons_succ]); go_simp; (try (with_reducible rfl)))
                clear hSh; intro hSh
                try simp only [getElem_toArray, getElem_cons_succ, getElem_cons_zero, Act.put, setIfInBounds_toArray, set_cons_zero, set_cons_succ]
                refine wpAnyT_take (i := 2) (n := 80) (v := ?vv2_59) (fun w' => Wi Kn w w' gw x y (T.SA (i + 1)) (T.SB j) v (.slice RB b cB) tl tB s ∧ Blk w' gX [.slice RR L rr, .int .u16 TT, .int .u16 PP, .bool bb] 51) rfl (by kernel_rfl) (by kernel_rfl) (by kernel_rfl) (fun _ _ _ h => h) ⟨by decide, .inr ⟨by kernel_rfl, by kernel_rfl, rfl⟩⟩ hSh (Or.inl ⟨by rfl, ?yy2_59⟩) (by assumption) ?rr2_59
                case yy2_59 => (intro w hSw; (skip); (try simp only [getElem_toArray, getElem_cons_succ, getElem_cons_zero, Act.put, setIfInBounds_toArray, set_cons_zero, set_cons_succ]); go_simp; (try (with_reducible rfl)))
                clear hSh; intro hSh
                try simp only [getElem_toArray, getElem_cons_succ, getElem_cons_zero, Act.put, setIfInBounds_toArray, set_cons_zero, set_cons_succ]
                refine wpAnyT_take (i := 3) (n := 80) (v := ?vv3_60) (fun w' => Wi Kn w w' gw x y (T.SA (i + 1)) (T.SB j) v (.slice RB b cB) tl tB s ∧ Blk w' gX [.slice RR L rr, .int .u16 TT, .int .u16 PP, .bool bb] 51) rfl (by kernel_rfl) (by kernel_rfl) (by kernel_rfl) (fun _ _ _ h => h) ⟨by decide, .inr ⟨by kernel_rfl, by kernel_rfl, rfl⟩⟩ hSh (Or.inl ⟨by rfl, ?yy3_60⟩) (by assumption) ?rr3_60
                case yy3_60 => (intro w hSw; (skip); (try simp only [getElem_toArray, getElem_cons_succ, getElem_cons_zero, Act.put, setIfInBounds_toArray, set_cons_zero, set_cons_succ]); go_simp; (try (with_reducible rfl)))
                clear hSh; intro hSh
                try simp only [getElem_toArray, getElem_cons_succ, getElem_cons_zero, Act.put, setIfInBounds_toArray, set_cons_zero, set_cons_succ]
                refine wpAnyT_take (i := 4) (n := 80) (v := ?vv4_61) (fun w' => Wi Kn w w' gw x y (T.SA (i + 1)) (T.SB j) v (.slice RB b cB) tl tB s ∧ Blk w' gX [.slice RR L rr, .int .u16 TT, .int .u16 PP, .bool bb] 51) rfl (by kernel_rfl) (by kernel_rfl) (by kernel_rfl) (fun _ _ _ h => h) ⟨by decide, .inr ⟨by kernel_rfl, by kernel_rfl, rfl⟩⟩ hSh (Or.inl ⟨by rfl, ?yy4_61⟩) (by assumption) ?rr4_61
                case yy4_61 => (intro w hSw; (obtain ⟨c0, c1, c2, c3, c5, f2, f3, f5⟩ := hSw.1.cells); (try simp only [getElem_toArray, getElem_cons_succ, getElem_cons_zero, Act.put, setIfInBounds_toArray, set_cons_zero, set_cons_succ]); go_simp; (try (with_reducible rfl)))
                clear hSh; intro hSh
                try simp only [getElem_toArray, getElem_cons_succ, getElem_cons_zero, Act.put, setIfInBounds_toArray, set_cons_zero, set_cons_succ]
                refine wpAnyT_take (i := 5) (n := 80) (v := ?vv5_62) (fun w' => Wi Kn w w' gw x y (T.SA (i + 1)) (T.SB j) v (.slice RB b cB) tl tB s ∧ Blk w' gX [.slice RR L rr, .int .u16 TT, .int .u16 PP, .bool bb] 51) rfl (by kernel_rfl) (by kernel_rfl) (by kernel_rfl) (fun _ _ _ h => h) ⟨by decide, .inr ⟨by kernel_rfl, by kernel_rfl, rfl⟩⟩ hSh (Or.inl ⟨by rfl, ?yy5_62⟩) (by assumption) ?rr5_62
                case yy5_62 => (intro w hSw; (skip); (try simp only [getElem_toArray, getElem_cons_succ, getElem_cons_zero, Act.put, setIfInBounds_toArray, set_cons_zero, set_cons_succ]); go_simp; (try (with_reducible rfl)))
                clear hSh; intro hSh
                try simp only [getElem_toArray, getElem_cons_succ, getElem_cons_zero, Act.put, setIfInBounds_toArray, set_cons_zero, set_cons_succ]
                refine wpAnyT_take (i := 6) (n := 80) (v := ?vv6_63) (fun w' => Wi Kn w w' gw x y (T.SA (i + 1)) (T.SB j) v (.slice RB b cB) tl tB s ∧ Blk w' gX [.slice RR L rr, .int .u16 TT, .int .u16 PP, .bool bb] 51) rfl (by kernel_rfl) (by kernel_rfl) (by kernel_rfl) (fun _ _ _ h => h) ⟨by decide, .inr ⟨by kernel_rfl, by kernel_rfl, rfl⟩⟩ hSh (Or.inl ⟨by rfl, ?yy6_63⟩) (by assumption) ?rr6_63
                case yy6_63 => (intro w hSw; (have x0 : w.cell? ⟨gX, 0, none⟩ = some (.slice RR L rr) := hSw.2.at_ 0); (try simp only [getElem_toArray, getElem_cons_succ, getElem_cons_zero, Act.put, setIfInBounds_toArray, set_cons_zero, set_cons_succ]); go_simp; (try (with_reducible rfl)))
                clear hSh; intro hSh
                try simp only [getElem_toArray, getElem_cons_succ, getElem_cons_zero, Act.put, setIfInBounds_toArray, set_cons_zero, set_cons_succ]
                refine wpAnyT_ready (rs := [0, 7]) (by kernel_rfl) (by simp) ?_
                refine AllReadyT.cons (o := _) (fun w' => Wi Kn w w' gw x y (T.SA (i + 1)) (T.SB j) v (.slice RB b cB) tl tB s ∧ Blk w' gX [.slice RR L rr, .int .u16 TT, .int .u16 PP, .bool bb] 51) (fun _ => cond_ahead (by kernel_rfl)) (by kernel_rfl) hSh rfl (fun K hK => ?_) (AllReadyT.cons (o := _) (fun _ => True) (fun _ => cond_at (by kernel_rfl)) (by kernel_rfl) hSh rfl (fun K hK => ?_) AllReadyT.nil)
                · try simp only [getElem_toArray, getElem_cons_succ, getElem_cons_zero, Act.put, setIfInBounds_toArray, set_cons_zero, set_cons_succ]
                  go_simp
                  clear hSh
                  refine hK.out _ _ hHeld8 (fun _ hSh => ?_)
                  clear hK K
                  try simp only [getElem_toArray, getElem_cons_succ, getElem_cons_zero, Act.put, setIfInBounds_toArray, set_cons_zero, set_cons_succ]
                  refine wpAnyT_ready (rs := [7]) (by kernel_rfl) (by simp) ?_
                  refine AllReadyT.cons (o := _) (fun _ => True) (fun _ => cond_at (by kernel_rfl)) (by kernel_rfl) hSh rfl (fun K hK => ?_) AllReadyT.nil
                  refine step_pks wc.drew (by rfl) _ _ 49 (by rfl) w.heap.size 56 i0 _ 24 Tryz.underlying49 hi0 hz0 hz1 hz2 rfl (.slice RB b cB) b tB (by rfl) HrO.out RR L rr l HL.out HRn.out (by rfl) HR5.out (by unfold maxLen; omega) (by omega) HW4.out.drew.hb.size ?_
                  intro v6 y6 hr6 hg6 hat6
                  rw [← Hb.out, ← HL.out] at hr6
                  obtain ⟨R6, q6, hv6⟩ := own_slice hr6
                  subst hv6
                  have HN6 := Lib.hid (HW4.out.drew.growB (l := l) hg6 hr6 hat6)
                  clear hr6 hg6 hat6
                  obtain ⟨d6, hd6⟩ := HN6.out.2
                  have c3 := hd6.at_ 3
                  have f3 := hd6.frozen 3
                  have c5 : y6.cell? ⟨gw, 5, none⟩ = some (.int .i64 s) := hd6.at_ 5
                  have f5 := hd6.frozen 5
                  clear hd6
                  clear hSh
                  refine hK.out _ _ trivial (fun _ hSh => ?_)
                  clear hK K
                  try simp only [getElem_toArray, getElem_cons_succ, getElem_cons_zero, Act.put, setIfInBounds_toArray, set_cons_zero, set_cons_succ]
                  refine wpAnyT_take (i := 8) (n := 80) (v := ?vv8_64) (fun _ => True) rfl (by kernel_rfl) (by kernel_rfl) (by kernel_rfl) (fun _ _ _ h => h) ⟨by decide, .inl ⟨by kernel_rfl, rfl⟩⟩ hSh (Or.inl ⟨by rfl, ?yy8_64⟩) (by assumption) ?rr8_64
                  case yy8_64 => (intro w hSw; (skip); (try simp only [getElem_toArray, getElem_cons_succ, getElem_cons_zero, Act.put, setIfInBounds_toArray, set_cons_zero, set_cons_succ]); go_simp; (try (with_reducible rfl)))
                  clear hSh; intro hSh
                  try simp only [getElem_toArray, getElem_cons_succ, getElem_cons_zero, Act.put, setIfInBounds_toArray, set_cons_zero, set_cons_succ]
                  refine wpAnyT_take (i := 9) (n := 80) (v := ?vv9_65) (fun _ => True) rfl (by kernel_rfl) (by kernel_rfl) (by kernel_rfl) (fun _ _ _ h => h) ⟨by decide, .inl ⟨by kernel_rfl, rfl⟩⟩ hSh (Or.inl ⟨by rfl, ?yy9_65⟩) (by assumption) ?rr9_65
                  case yy9_65 => (intro w hSw; (skip); (try simp only [getElem_toArray, getElem_cons_succ, getElem_cons_zero, Act.put, setIfInBounds_toArray, set_cons_zero, set_cons_succ]); go_simp; (try (with_reducible rfl)))
                  clear hSh; intro hSh
                  try simp only [getElem_toArray, getElem_cons_succ, getElem_cons_zero, Act.put, setIfInBounds_toArray, set_cons_zero, set_cons_succ]
                  refine wpAnyT_ready (rs := [10]) (by kernel_rfl) (by simp) ?_
                  refine AllReadyT.cons (o := _) (fun _ => True) (fun _ => cond_at (by kernel_rfl)) (by kernel_rfl) hSh rfl (fun K hK => ?_) AllReadyT.nil
                  try simp only [getElem_toArray, getElem_cons_succ, getElem_cons_zero, Act.put, setIfInBounds_toArray, set_cons_zero, set_cons_succ]
                  go_simp
                  clear hSh
                  refine hK.out _ _ trivial (fun _ hSh => ?_)
                  clear hK K
                  try simp only [getElem_toArray, getElem_cons_succ, getElem_cons_zero, Act.put, setIfInBounds_toArray, set_cons_zero, set_cons_succ]
                  refine wpAnyT_done (by kernel_rfl) ?_ _
                  go_wp2
                  go_meet
                  exact ⟨_, HN6.out.1⟩
                · refine step_pks wc.drew (by rfl) _ _ 49 (by rfl) w.heap.size 56 i0 _ 24 Tryz.underlying49 hi0 hz0 hz1 hz2 rfl (.slice RB b cB) b tB (by rfl) HrO.out RR L rr l HL.out HRn.out (by rfl) HR5.out (by unfold maxLen; omega) (by omega) HW4.out.drew.hb.size ?_
                  intro v6 y6 hr6 hg6 hat6
                  rw [← Hb.out, ← HL.out] at hr6
                  obtain ⟨R6, q6, hv6⟩ := own_slice hr6
                  subst hv6
                  have HN6 := Lib.hid (HW4.out.drew.growB (l := l) hg6 hr6 hat6)
                  clear hr6 hg6 hat6
                  obtain ⟨d6, hd6⟩ := HN6.out.2
                  have c3 := hd6.at_ 3
                  have f3 := hd6.frozen 3
                  have c5 : y6.cell? ⟨gw, 5, none⟩ = some (.int .i64 s) := hd6.at_ 5
                  have f5 := hd6.frozen 5
                  clear hd6
                  clear hSh
                  refine hK.out _ _ trivial (fun _ hSh => ?_)
                  clear hK K
                  try simp only [getElem_toArray, getElem_cons_succ, getElem_cons_zero, Act.put, setIfInBounds_toArray, set_cons_zero, set_cons_succ]
                  refine wpAnyT_take (i := 0) (n := 80) (v := ?vv0_66) (fun _ => True) rfl (by kernel_rfl) (by kernel_rfl) (by kernel_rfl) (fun _ _ _ h => h) ⟨by decide, .inl ⟨by kernel_rfl, rfl⟩⟩ hSh (Or.inl ⟨by rfl, ?yy0_66⟩) (by assumption) ?rr0_66
                  case yy0_66 => (intro w hSw; (skip); (try simp only [getElem_toArray, getElem_cons_succ, getElem_cons_zero, Act.put, setIfInBounds_toArray, set_cons_zero, set_cons_succ]); go_simp; (try (with_reducible rfl)))
                  clear hSh; intro hSh
                  try simp only [getElem_toArray, getElem_cons_succ, getElem_cons_zero, Act.put, setIfInBounds_toArray, set_cons_zero, set_cons_succ]
                  refine wpAnyT_take (i := 8) (n := 80) (v := ?vv8_67) (fun _ => True) rfl (by kernel_rfl) (by kernel_rfl) (by kernel_rfl) (fun _ _ _ h => h) ⟨by decide, .inl ⟨by kernel_rfl, rfl⟩⟩ hSh (Or.inl ⟨by rfl, ?yy8_67⟩) (by assumption) ?rr8_67
                  case yy8_67 => (intro w hSw; (skip); (try simp only [getElem_toArray, getElem_cons_succ, getElem_cons_zero, Act.put, setIfInBounds_toArray, set_cons_zero, set_cons_succ]); go_simp; (try (with_reducible rfl)))
                  clear hSh; intro hSh
                  try simp only [getElem_toArray, getElem_cons_succ, getElem_cons_zero, Act.put, setIfInBounds_toArray, set_cons_zero, set_cons_succ]
                  refine wpAnyT_take (i := 9) (n := 80) (v := ?vv9_68) (fun _ => True) rfl (by kernel_rfl) (by kernel_rfl) (by kernel_rfl) (fun _ _ _ h => h) ⟨by decide, .inl ⟨by kernel_rfl, rfl⟩⟩ hSh (Or.inl ⟨by rfl, ?yy9_68⟩) (by assumption) ?rr9_68
                  case yy9_68 => (intro w hSw; (skip); (try simp only [getElem_toArray, getElem_cons_succ, getElem_cons_zero, Act.put, setIfInBounds_toArray, set_cons_zero, set_cons_succ]); go_simp; (try (with_reducible rfl)))
                  clear hSh; intro hSh
                  try simp only [getElem_toArray, getElem_cons_succ, getElem_cons_zero, Act.put, setIfInBounds_toArray, set_cons_zero, set_cons_succ]
                  refine wpAnyT_ready (rs := [10]) (by kernel_rfl) (by simp) ?_
                  refine AllReadyT.cons (o := _) (fun _ => True) (fun _ => cond_at (by kernel_rfl)) (by kernel_rfl) hSh rfl (fun K hK => ?_) AllReadyT.nil
                  try simp only [getElem_toArray, getElem_cons_succ, getElem_cons_zero, Act.put, setIfInBounds_toArray, set_cons_zero, set_cons_succ]
                  go_simp
                  clear hSh
                  refine hK.out _ _ trivial (fun _ hSh => ?_)
                  clear hK K
                  try simp only [getElem_toArray, getElem_cons_succ, getElem_cons_zero, Act.put, setIfInBounds_toArray, set_cons_zero, set_cons_succ]
                  refine wpAnyT_done (by kernel_rfl) ?_ _
                  go_wp2
                  go_meet
                  exact ⟨_, HN6.out.1⟩
            case rest =>
            obtain ⟨v6, H7⟩ := hcut
            clear HrO HR5 HW4 HX4 HR4 hHeld8
            obtain ⟨z0, z1, z2, z3, z5, g2, g3, g5⟩ := H7.out.cells
            clear z0 z1 z2 z3 g2 g3
            have H8 := Lib.hid (H7.out.setSent (s + 1))
            have hcs : ((s + 1 : Nat) : Int) = (s : Int) + 1 := by omega
            rw [hcs] at H8
            clear hcs
            have hsw : IntKind.i64.wrap ((s : Int) + 1) = ((s + 1 : Nat) : Int) := by simp only [IntKind.wrap_i64]; omega
            go_wp2
            go_roundw
            case rel =>
              have h9 := H8.out
              refine ⟨i + 1, j, v, v6, ⟨by omega, HR.out.2.1, HIJ.out, Nat.le_trans HR.out.2.2.2.1 (T.mA i hiN).1, ?_⟩⟩
              have e9 : s + 1 = i + 1 + j := by rw [Hs.out]; omega
              rw [HB2.out, Htl.out, e9] at h9
              exact h9
            case measure =>
              have m1 := H8.out.cells.2.2.2.2.1
              rw [sentOf_eq HC5.out, sentOf_eq m1]
              omega
end Go.Proofs.YtpppggicihfbgaaGreat.Neg
