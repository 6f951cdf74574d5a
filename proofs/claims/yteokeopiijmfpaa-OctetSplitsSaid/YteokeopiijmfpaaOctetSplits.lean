/- PROVED: 'halyardlaw01.OctetSplits' returns true for every input, and leaves it as it was. No condition. -/
import Derived.Test.YteokeopiijmfpaaOctI
import Derived.Test.YteokeopiijmfpaaLaw
import Derived.Test.YteokeopiijmfpaaRows
namespace Go.Proofs.Yteokeopiijmfpaa.OctetSplits
open Go.ChangeShapes Go.WideShapes Go.ChangeAt Go.RowKit Go.Proofs.Yteokeopiijmfpaa.Oct Go.Proofs.Yteokeopiijmfpaa.Law
open Go.ChangeMaps (open_string shut_string)

theorem own : ownKnob Try.prog.godebug = none := by kernel_rfl
theorem laidOut : laidOutB Try.prog = true := by kernel_rfl
theorem beq_self (s : ByteArray) : (s.toList == s.toList) = true := by simp

set_option maxHeartbeats 4000000 in
set_option maxRecDepth 100000 in
theorem walk (A A' : Option Addr) (n c n' c' : Nat) (l l' : List ByteArray) (s : ByteArray) (w : World) (hl : Strs w w.heap.size A n l) (hl' : Strs w w.heap.size A' n' l') (hs : s.size ≤ maxLen) :
    Calls Try.prog 6 #[.slice A n c, .slice A' n' c', .string s] w fun e w' => e = .returned (.bool true) ∧ Below w.heap.size w w' := by
  have Hl := Lib.hid hl; clear hl
  have Hl' := Lib.hid hl'; clear hl'
  have hsf := beq_self s
  unfold maxLen at hs
  go_enter Try.func6, Try.ntmps6
  go_wp2_with fail
  refine (long_any A n c l _ Hl.out).mono ?_
  rintro e w1 ⟨b, rfl, hbn, rfl⟩
  have Hbn := Lib.hid hbn; clear hbn
  cases b
  · go_wp2_with fail
    refine (long_any A' n' c' l' _ Hl'.out).mono ?_
    rintro e w2 ⟨b', rfl, hbn', rfl⟩
    have Hbn' := Lib.hid hbn'; clear hbn'
    cases b'
    · by_cases h : 32768 < (s.size : Int)
      · go_wp2_with fail
        refine (alive_any _).mono ?_
        rintro e w1 ⟨rfl, hb1⟩
        go_wp2_with fail
        go_ret
        exact ⟨rfl, hb1⟩
      · have hn := Hbn.out (by trivial)
        have hn' := Hbn'.out (by trivial)
        by_cases ha : allOk l = true
        · have HZ := Lib.hid (joinS_size l n Hl.out.1 hn)
          have HSJ := Lib.hid (split_join ha)
          have HjE : Hid (joinE l = 0) := by simp [joinE, ha, Hid]
          by_cases ha' : allOk l' = true
          · have hEq := join_eq ha ha'
            have HjE' : Hid (joinE l' = 0) := by simp [joinE, ha', Hid]
            go_wp2_with fail
            refine (join8_any A n c l _ Hl.out (by omega)).mono ?_
            rw [HjE.out]
            rintro e w3 ⟨rfl, hb3⟩
            go_wp2_with fail
            refine (join8_any A' n' c' l' _ ((Hl'.out.below hb3).more hb3.size) (by omega)).mono ?_
            rw [HjE'.out]
            rintro e w4 ⟨rfl, hb4⟩
            have B4 := hb3.trans (hb4.mono hb3.size)
            go_wp2_with fail
            refine (split8_q (joinS l) _ HZ.out).mono ?_
            unfold SplitQ
            rw [HSJ.out.1, HSJ.out.2]
            rintro e w5 ⟨A5, c5, rfl, hS5, hb5⟩
            have B5 := B4.trans (hb5.mono B4.size)
            have HS5 := Lib.hid hS5; clear hS5
            go_wp2_with fail
            refine (calls_below (same_any A5 A _ n c5 c _ _ _ (by have := Hl.out.1; unfold maxLen; omega) HS5.out ((Hl.out.below B5).more B5.size))).mono ?_
            rw [decide_eq_true rfl]
            rintro e w5b ⟨rfl, hb5b⟩
            have B5b := B5.trans (hb5b.mono B5.size)
            go_wp2_with fail
            refine (calls_below (same_any A A' n n' c c' _ _ _ (by unfold maxLen; omega) ((Hl.out.below B5b).more B5b.size) ((Hl'.out.below B5b).more B5b.size))).mono ?_
            rintro e w6 ⟨rfl, hb6⟩
            have B6 := B5b.trans (hb6.mono B5b.size)
            rcases hsp : split s.toList with _ | r
            · have HN := Lib.hid (split_no hsp); clear hsp
              go_wp2_with fail
              refine (split8_q s _ (by omega)).mono ?_
              unfold SplitQ
              rw [HN.out.1, HN.out.2]
              rintro e w7 ⟨A7, c7, rfl, hS7, hb7⟩
              have B7 := B6.trans (hb7.mono B6.size)
              clear hS7
              go_wp2_with fail
              refine (alive_any _).mono ?_
              rintro e w8 ⟨rfl, hb8⟩
              go_wp2_with fail
              go_ret
              exact ⟨rfl, B7.trans (hb8.mono B7.size)⟩
            · have HY := Lib.hid (split_yes hsp).1
              have HJ := Lib.hid (join_split hsp); clear hsp
              have HL := Lib.hid (split_len s (by omega))
              go_wp2_with fail
              refine (split8_q s _ (by omega)).mono ?_
              unfold SplitQ
              rw [HY.out]
              rintro e w7 ⟨A7, c7, rfl, hS7, hb7⟩
              have B7 := B6.trans (hb7.mono B6.size)
              have HS7 := Lib.hid hS7; clear hS7
              go_wp2_with fail
              refine (join8_any A7 _ c7 _ _ HS7.out (by have := HL.out; omega)).mono ?_
              rw [HJ.out.1, HJ.out.2]
              rintro e w8 ⟨rfl, hb8⟩
              have B8 := B7.trans (hb8.mono B7.size)
              go_wp2_with fail
              refine (alive_any _).mono ?_
              rintro e w9 ⟨rfl, hb9⟩
              go_wp2_with fail
              go_ret
              exact ⟨rfl, B8.trans (hb9.mono B8.size)⟩
          · have HjE' : Hid (joinE l' = 5) := by simp [joinE, ha', Hid]
            go_wp2_with fail
            refine (join8_any A n c l _ Hl.out (by omega)).mono ?_
            rw [HjE.out]
            rintro e w3 ⟨rfl, hb3⟩
            go_wp2_with fail
            refine (join8_any A' n' c' l' _ ((Hl'.out.below hb3).more hb3.size) (by omega)).mono ?_
            rw [HjE'.out]
            rintro e w4 ⟨rfl, hb4⟩
            have B4 := hb3.trans (hb4.mono hb3.size)
            go_wp2_with fail
            refine (split8_q (joinS l) _ HZ.out).mono ?_
            unfold SplitQ
            rw [HSJ.out.1, HSJ.out.2]
            rintro e w5 ⟨A5, c5, rfl, hS5, hb5⟩
            have B5 := B4.trans (hb5.mono B4.size)
            have HS5 := Lib.hid hS5; clear hS5
            go_wp2_with fail
            refine (calls_below (same_any A5 A _ n c5 c _ _ _ (by have := Hl.out.1; unfold maxLen; omega) HS5.out ((Hl.out.below B5).more B5.size))).mono ?_
            rw [decide_eq_true rfl]
            rintro e w5b ⟨rfl, hb5b⟩
            have B6 := B5.trans (hb5b.mono B5.size)
            rcases hsp : split s.toList with _ | r
            · have HN := Lib.hid (split_no hsp); clear hsp
              go_wp2_with fail
              refine (split8_q s _ (by omega)).mono ?_
              unfold SplitQ
              rw [HN.out.1, HN.out.2]
              rintro e w7 ⟨A7, c7, rfl, hS7, hb7⟩
              have B7 := B6.trans (hb7.mono B6.size)
              clear hS7
              go_wp2_with fail
              refine (alive_any _).mono ?_
              rintro e w8 ⟨rfl, hb8⟩
              go_wp2_with fail
              go_ret
              exact ⟨rfl, B7.trans (hb8.mono B7.size)⟩
            · have HY := Lib.hid (split_yes hsp).1
              have HJ := Lib.hid (join_split hsp); clear hsp
              have HL := Lib.hid (split_len s (by omega))
              go_wp2_with fail
              refine (split8_q s _ (by omega)).mono ?_
              unfold SplitQ
              rw [HY.out]
              rintro e w7 ⟨A7, c7, rfl, hS7, hb7⟩
              have B7 := B6.trans (hb7.mono B6.size)
              have HS7 := Lib.hid hS7; clear hS7
              go_wp2_with fail
              refine (join8_any A7 _ c7 _ _ HS7.out (by have := HL.out; omega)).mono ?_
              rw [HJ.out.1, HJ.out.2]
              rintro e w8 ⟨rfl, hb8⟩
              have B8 := B7.trans (hb8.mono B7.size)
              go_wp2_with fail
              refine (alive_any _).mono ?_
              rintro e w9 ⟨rfl, hb9⟩
              go_wp2_with fail
              go_ret
              exact ⟨rfl, B8.trans (hb9.mono B8.size)⟩
        · have HjE : Hid (joinE l = 5) := by simp [joinE, ha, Hid]
          go_wp2_with fail
          refine (join8_any A n c l _ Hl.out (by omega)).mono ?_
          rw [HjE.out]
          rintro e w3 ⟨rfl, hb3⟩
          go_wp2_with fail
          refine (join8_any A' n' c' l' _ ((Hl'.out.below hb3).more hb3.size) (by omega)).mono ?_
          rintro e w4 ⟨rfl, hb4⟩
          have B4 := hb3.trans (hb4.mono hb3.size)
          have B6 := B4
          rcases hsp : split s.toList with _ | r
          · have HN := Lib.hid (split_no hsp); clear hsp
            go_wp2_with fail
            refine (split8_q s _ (by omega)).mono ?_
            unfold SplitQ
            rw [HN.out.1, HN.out.2]
            rintro e w7 ⟨A7, c7, rfl, hS7, hb7⟩
            have B7 := B6.trans (hb7.mono B6.size)
            clear hS7
            go_wp2_with fail
            refine (alive_any _).mono ?_
            rintro e w8 ⟨rfl, hb8⟩
            go_wp2_with fail
            go_ret
            exact ⟨rfl, B7.trans (hb8.mono B7.size)⟩
          · have HY := Lib.hid (split_yes hsp).1
            have HJ := Lib.hid (join_split hsp); clear hsp
            have HL := Lib.hid (split_len s (by omega))
            go_wp2_with fail
            refine (split8_q s _ (by omega)).mono ?_
            unfold SplitQ
            rw [HY.out]
            rintro e w7 ⟨A7, c7, rfl, hS7, hb7⟩
            have B7 := B6.trans (hb7.mono B6.size)
            have HS7 := Lib.hid hS7; clear hS7
            go_wp2_with fail
            refine (join8_any A7 _ c7 _ _ HS7.out (by have := HL.out; omega)).mono ?_
            rw [HJ.out.1, HJ.out.2]
            rintro e w8 ⟨rfl, hb8⟩
            have B8 := B7.trans (hb8.mono B7.size)
            go_wp2_with fail
            refine (alive_any _).mono ?_
            rintro e w9 ⟨rfl, hb9⟩
            go_wp2_with fail
            go_ret
            exact ⟨rfl, B8.trans (hb9.mono B8.size)⟩
    · go_wp2_with fail
      refine (alive_any _).mono ?_
      rintro e w1 ⟨rfl, hb1⟩
      go_wp2_with fail
      go_ret
      exact ⟨rfl, hb1⟩
  · go_wp2_with fail
    refine (alive_any _).mono ?_
    rintro e w1 ⟨rfl, hb1⟩
    go_wp2_with fail
    go_ret
    exact ⟨rfl, hb1⟩

set_option maxRecDepth 100000 in
theorem lifted (os : Os) (started : os.Started) (H : Type) (enc : TypeId × Value → H) :
    ReturnsInHanded {} Try.checked os 6 .any (Rows.octetSplitsSpec.pre6 enc Try.prog Try.f6 Rows.octetSplitsRow.domain false) (Rows.octetSplitsSpec.post enc Try.prog Try.f6 false true false false) := by
  refine returnsInHanded_of_change (C := Try.checked) own started (by kernel_rfl) Try.func6
    (ChangeSpec.witness6 (enc := enc) (C := Try.checked) false ⟨#[], #[.slice none 0 0, .slice none 0 0, .string ByteArray.empty], []⟩ 8 (by kernel_rfl) (by kernel_rfl) (by kernel_rfl) (by kernel_rfl)) ?_
  intro W base args ds gs before hval0 hW hcnd _
  have hval : ∀ (j : Nat) t v, Try.f6.params[j]? = some t → args[j]? = some v → Value.okWide Try.prog W .any base t v := hval0
  have hW' := hW
  obtain ⟨p, q, hA0, hV, rfl, hfz, hnd⟩ := hW
  have hlt := hW'.lt
  have hA : DataW.TrodAll enc Try.prog W 0 (fun _ => true) true Try.f6.params.toList args.toList ds p := hA0
  rw [Try.params6] at hA hval
  obtain ⟨v0, vs0, d0, ds0, p0, q0, hargs, rfl, rfl, h0, r0⟩ := trodAll_cons hA
  obtain ⟨v1, vs1, d1, ds1, p1, q1, rfl, rfl, rfl, h1, r1⟩ := trodAll_cons r0
  obtain ⟨v2, vs2, d2, ds2, p2, q2, rfl, rfl, rfl, h2, r2⟩ := trodAll_cons r1
  obtain ⟨rfl, rfl, rfl⟩ := trodAll_nil r2
  obtain rfl : args = #[v0, v1, v2] := by cases args; simp_all
  obtain ⟨rfl, rfl⟩ := trodVars_none hV
  obtain ⟨A0, n0, c0, rfl, m0, l0, hS0⟩ := strs_of Try.underlying40 Try.underlying9 (by kernel_rfl) (hval 0 40 v0 rfl rfl) h0
  obtain ⟨A1, n1, c1, rfl, m1, l1, hS1⟩ := strs_of Try.underlying40 Try.underlying9 (by kernel_rfl) (hval 1 40 v1 rfl rfl) h1
  obtain ⟨a2, rfl, rfl, rfl, w2⟩ := open_string Try.underlying9 (hval 2 9 v2 rfl rfl) h2
  clear hA0 hval0
  exact (walk A0 A1 n0 c0 n1 c1 l0 l1 a2 W hS0 hS1 w2).mono fun e W' ⟨he, hb⟩ => ⟨_, he, law_post (t := 4) laidOut (by kernel_rfl) rfl rfl Try.underlying4 ⟨rfl, rfl, rfl⟩ hW' hb⟩

theorem over : Rows.octetSplitsRow.holds Try.pinned (OpenSpec.ofChange Rows.octetSplitsSpec) :=
  OpenClaim.holds_of_wide 6 Try.f6 rfl rfl rfl rfl rfl rfl rfl ⟨rfl, rfl, rfl, rfl, rfl⟩ rfl rfl rfl rfl rfl (by kernel_rfl) Try.func6 (by kernel_rfl)
    (of_decide_eq_true (by kernel_rfl)) (by unfold Func.isWrapper; first | (rw [if_pos (by decide +kernel)]; kernel_rfl) | (rw [if_neg (by decide +kernel)]; exact ⟨rfl, rfl⟩))
    (fun os started H enc _ => lifted os started H enc)

theorem proved : Rows.OctetSplitsSaid :=
  over
#print axioms proved
end Go.Proofs.Yteokeopiijmfpaa.OctetSplits
