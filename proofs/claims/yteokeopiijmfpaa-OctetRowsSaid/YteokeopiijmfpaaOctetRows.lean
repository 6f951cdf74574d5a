/- PROVED: 'halyardlaw01.OctetRows' returns true for every input, and leaves it as it was. No condition. -/
import Derived.Test.YteokeopiijmfpaaOctI
import Derived.Test.YteokeopiijmfpaaLaw
import Derived.Test.YteokeopiijmfpaaRows
namespace Go.Proofs.Yteokeopiijmfpaa.OctetRows
open Go.ChangeShapes Go.WideShapes Go.ChangeAt Go.RowKit Go.Proofs.Yteokeopiijmfpaa.Oct Go.Proofs.Yteokeopiijmfpaa.Law
open Go.ChangeMaps (open_string shut_string)

theorem own : ownKnob Try.prog.godebug = none := by kernel_rfl
theorem laidOut : laidOutB Try.prog = true := by kernel_rfl
theorem beq_self (s : ByteArray) : (s.toList == s.toList) = true := by simp

set_option maxHeartbeats 4000000 in
set_option maxRecDepth 100000 in
theorem walk (A : Option Addr) (n c : Nat) (l : List ByteArray) (s : ByteArray) (w : World) (hl : Strs w w.heap.size A n l) (hs : s.size ≤ maxLen) :
    Calls Try.prog 5 #[.slice A n c, .string s] w fun e w' => e = .returned (.bool true) ∧ Below w.heap.size w w' := by
  have Hl := Lib.hid hl; clear hl
  have Hs := Lib.hid hs
  unfold maxLen at hs
  obtain ⟨i0, hi, hz0, hz1, hz2⟩ := info_parts Try.info9
  go_enter Try.func5, Try.ntmps5
  go_wp2_with fail
  refine (long_any A n c l _ Hl.out).mono ?_
  rintro e w0 ⟨b, rfl, hbn, rfl⟩
  have Hbn := Lib.hid hbn; clear hbn
  cases b
  · by_cases h : 32768 < (s.size : Int)
    · go_wp2_with fail
      refine (alive_any _).mono ?_
      rintro e w1 ⟨rfl, hb1⟩
      go_wp2_with fail
      go_ret
      exact ⟨rfl, hb1⟩
    · have hn := Hbn.out rfl
      have hx1 := beq_self (joinS l)
      have hx2 := beq_self (readA s)
      have hx3 := beq_self (readB s)
      have hx4 := beq_self (joinS [s])
      have hlen := Hl.out.1
      have hz := Hl.out.2.1
      have Hlen := Lib.hid hlen; clear hlen
      have Hz := Lib.hid hz; clear hz
      rcases A with _ | ad
      · obtain rfl : n = 0 := by
          rcases Nat.eq_zero_or_pos n with h0 | h0
          · exact h0
          · obtain ⟨ad, h1, _⟩ := Hl.out.2.2 h0
            cases h1
        have hb1 := Below.refl w.heap.size w
        obtain rfl : l = [] := List.eq_nil_of_length_eq_zero Hlen.out
        go_wp2_with fail
        refine (join8_any none 0 0 [] _ Hl.out (by omega)).mono ?_
        rintro e w2 ⟨rfl, hb2⟩
        have B2 := hb1.trans (hb2.mono hb1.size)
        go_wp2_with fail
        refine (rjoin8_any (none) 0 c [] _ ((Hl.out.below B2).more B2.size) (by omega)).mono ?_
        rintro e w3 ⟨rfl, hb3⟩
        have B3 := B2.trans (hb3.mono B2.size)
        go_wp2_with fail
        refine (split8_q s _ (by omega)).mono ?_
        rintro e w4 ⟨A4, c4, rfl, hS4, hb4⟩
        have B4 := B3.trans (hb4.mono B3.size)
        have HS4 := Lib.hid hS4; clear hS4
        go_wp2_with fail
        refine (rsplit8_q s _ (by omega)).mono ?_
        rintro e w5 ⟨A5, c5, rfl, hS5, hb5⟩
        have B5 := B4.trans (hb5.mono B4.size)
        have HS5 := Lib.hid hS5; clear hS5
        go_wp2_with fail
        refine (calls_below (read8_any s _ Hs.out)).mono ?_
        rintro e w6 ⟨rfl, hb6⟩
        have B6 := B5.trans (hb6.mono B5.size)
        go_wp2_with fail
        refine (calls_below (rread8_any s _ Hs.out)).mono ?_
        rintro e w7 ⟨rfl, hb7⟩
        have B7 := B6.trans (hb7.mono B6.size)
        go_wp2_with fail
        refine (text8_any s _ Hs.out).mono ?_
        rintro e w8 ⟨rfl, hb8⟩
        have B8 := B7.trans (hb8.mono B7.size)
        go_wp2_with fail
        refine (rtext8_any s _ Hs.out).mono ?_
        rintro e w9 ⟨rfl, hb9⟩
        have B9 := B8.trans (hb9.mono B8.size)
        have C8 := hb6.trans (hb7.mono hb6.size)
        have C9 := C8.trans (hb8.mono C8.size)
        have C10 := C9.trans (hb9.mono C9.size)
        have HS4' := Lib.hid ((((HS4.out.below hb5).more hb5.size).below C10).more C10.size)
        have HS5' := Lib.hid ((HS5.out.below C10).more C10.size)
        have HL := Lib.hid (split_len s (by omega))
        go_wp2_with fail
        refine (calls_below (same_any A4 A5 _ _ c4 c5 _ _ _ (by have := HL.out; unfold maxLen; omega) HS4'.out HS5'.out)).mono ?_
        rw [decide_eq_true rfl]
        rintro e w10 ⟨rfl, hb10⟩
        have B10 := B9.trans (hb10.mono B9.size)
        go_wp2_with fail
        refine (alive_any _).mono ?_
        rintro e w11 ⟨rfl, hb11⟩
        go_wp2_with fail
        go_ret
        exact ⟨rfl, B10.trans (hb11.mono B10.size)⟩
      · go_wp2_with (at_builtin; refine wpList_append_own _ rfl _ _ 40 rfl w.heap.size 9 i0 (.string ByteArray.empty) 1 16 Try.underlying40 hi hz0 hz1 hz2 rfl (by decide) (.slice none 0 0) 0 [] rfl (World.ownsRow_nil _ _ _ _) ad n c (textsV l) rfl (by rw [← Hlen.out]; simp [textsV]) (strs_cells Hl.out) (texts_one l) (by unfold maxLen; omega) (by omega) (Nat.le_refl _) ?_; intro v1 w1 hown1 hgr1 _; have Hown1 := Lib.hid hown1; clear hown1; have hb1 := (Below.refl w.heap.size w).grown hgr1 (Nat.le_refl _) (fun q hq => by cases hq))
        rw [Nat.zero_add, List.nil_append] at Hown1
        obtain ⟨A1, c1, hv1, hS1⟩ := strs_own Hown1.out Hz.out
        rw [hv1]
        refine (join8_any A1 n c1 l w1 hS1 (by omega)).mono ?_
        clear hv1 hS1
        rintro e w2 ⟨rfl, hb2⟩
        have B2 := hb1.trans (hb2.mono hb1.size)
        go_wp2_with fail
        refine (rjoin8_any (some ad) n c l _ ((Hl.out.below B2).more B2.size) (by omega)).mono ?_
        rintro e w3 ⟨rfl, hb3⟩
        have B3 := B2.trans (hb3.mono B2.size)
        go_wp2_with fail
        refine (split8_q s _ (by omega)).mono ?_
        rintro e w4 ⟨A4, c4, rfl, hS4, hb4⟩
        have B4 := B3.trans (hb4.mono B3.size)
        have HS4 := Lib.hid hS4; clear hS4
        go_wp2_with fail
        refine (rsplit8_q s _ (by omega)).mono ?_
        rintro e w5 ⟨A5, c5, rfl, hS5, hb5⟩
        have B5 := B4.trans (hb5.mono B4.size)
        have HS5 := Lib.hid hS5; clear hS5
        go_wp2_with fail
        refine (calls_below (read8_any s _ Hs.out)).mono ?_
        rintro e w6 ⟨rfl, hb6⟩
        have B6 := B5.trans (hb6.mono B5.size)
        go_wp2_with fail
        refine (calls_below (rread8_any s _ Hs.out)).mono ?_
        rintro e w7 ⟨rfl, hb7⟩
        have B7 := B6.trans (hb7.mono B6.size)
        go_wp2_with fail
        refine (text8_any s _ Hs.out).mono ?_
        rintro e w8 ⟨rfl, hb8⟩
        have B8 := B7.trans (hb8.mono B7.size)
        go_wp2_with fail
        refine (rtext8_any s _ Hs.out).mono ?_
        rintro e w9 ⟨rfl, hb9⟩
        have B9 := B8.trans (hb9.mono B8.size)
        have C8 := hb6.trans (hb7.mono hb6.size)
        have C9 := C8.trans (hb8.mono C8.size)
        have C10 := C9.trans (hb9.mono C9.size)
        have HS4' := Lib.hid ((((HS4.out.below hb5).more hb5.size).below C10).more C10.size)
        have HS5' := Lib.hid ((HS5.out.below C10).more C10.size)
        have HL := Lib.hid (split_len s (by omega))
        go_wp2_with fail
        refine (calls_below (same_any A4 A5 _ _ c4 c5 _ _ _ (by have := HL.out; unfold maxLen; omega) HS4'.out HS5'.out)).mono ?_
        rw [decide_eq_true rfl]
        rintro e w10 ⟨rfl, hb10⟩
        have B10 := B9.trans (hb10.mono B9.size)
        go_wp2_with fail
        refine (alive_any _).mono ?_
        rintro e w11 ⟨rfl, hb11⟩
        go_wp2_with fail
        go_ret
        exact ⟨rfl, B10.trans (hb11.mono B10.size)⟩
  · go_wp2_with fail
    refine (alive_any _).mono ?_
    rintro e w1 ⟨rfl, hb1⟩
    go_wp2_with fail
    go_ret
    exact ⟨rfl, hb1⟩

set_option maxRecDepth 100000 in
theorem lifted (os : Os) (started : os.Started) (H : Type) (enc : TypeId × Value → H) :
    ReturnsInHanded {} Try.checked os 5 .any (Rows.octetRowsSpec.pre6 enc Try.prog Try.f5 Rows.octetRowsRow.domain false) (Rows.octetRowsSpec.post enc Try.prog Try.f5 false true false false) := by
  refine returnsInHanded_of_change (C := Try.checked) own started (by kernel_rfl) Try.func5
    (ChangeSpec.witness6 (enc := enc) (C := Try.checked) false ⟨#[], #[.slice none 0 0, .string ByteArray.empty], []⟩ 8 (by kernel_rfl) (by kernel_rfl) (by kernel_rfl) (by kernel_rfl)) ?_
  intro W base args ds gs before hval0 hW hcnd _
  have hval : ∀ (j : Nat) t v, Try.f5.params[j]? = some t → args[j]? = some v → Value.okWide Try.prog W .any base t v := hval0
  have hW' := hW
  obtain ⟨p, q, hA0, hV, rfl, hfz, hnd⟩ := hW
  have hlt := hW'.lt
  have hA : DataW.TrodAll enc Try.prog W 0 (fun _ => true) true Try.f5.params.toList args.toList ds p := hA0
  rw [Try.params5] at hA hval
  obtain ⟨v0, vs0, d0, ds0, p0, q0, hargs, rfl, rfl, h0, r0⟩ := trodAll_cons hA
  obtain ⟨v1, vs1, d1, ds1, p1, q1, rfl, rfl, rfl, h1, r1⟩ := trodAll_cons r0
  obtain ⟨rfl, rfl, rfl⟩ := trodAll_nil r1
  obtain rfl : args = #[v0, v1] := by cases args; simp_all
  obtain ⟨rfl, rfl⟩ := trodVars_none hV
  obtain ⟨A0, n0, c0, rfl, m0, l0, hS0⟩ := strs_of Try.underlying40 Try.underlying9 (by kernel_rfl) (hval 0 40 v0 rfl rfl) h0
  obtain ⟨a1, rfl, rfl, rfl, w1⟩ := open_string Try.underlying9 (hval 1 9 v1 rfl rfl) h1
  clear hA0 hval0
  exact (walk A0 n0 c0 l0 a1 W hS0 w1).mono fun e W' ⟨he, hb⟩ => ⟨_, he, law_post (t := 4) laidOut (by kernel_rfl) rfl rfl Try.underlying4 ⟨rfl, rfl, rfl⟩ hW' hb⟩

theorem over : Rows.octetRowsRow.holds Try.pinned (OpenSpec.ofChange Rows.octetRowsSpec) :=
  OpenClaim.holds_of_wide 5 Try.f5 rfl rfl rfl rfl rfl rfl rfl ⟨rfl, rfl, rfl, rfl, rfl⟩ rfl rfl rfl rfl rfl (by kernel_rfl) Try.func5 (by kernel_rfl)
    (of_decide_eq_true (by kernel_rfl)) (by unfold Func.isWrapper; first | (rw [if_pos (by decide +kernel)]; kernel_rfl) | (rw [if_neg (by decide +kernel)]; exact ⟨rfl, rfl⟩))
    (fun os started H enc _ => lifted os started H enc)

theorem proved : Rows.OctetRowsSaid :=
  over
#print axioms proved
end Go.Proofs.Yteokeopiijmfpaa.OctetRows
