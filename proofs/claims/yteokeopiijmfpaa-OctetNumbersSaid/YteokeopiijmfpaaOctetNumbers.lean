/- PROVED: 'halyardlaw01.OctetNumbers' returns true for every two numbers and every text, and leaves them as they were. No condition. -/
import Derived.Test.YteokeopiijmfpaaOctH
import Derived.Test.YteokeopiijmfpaaLaw
import Derived.Test.YteokeopiijmfpaaRows
namespace Go.Proofs.Yteokeopiijmfpaa.OctetNumbers
open Go.ChangeShapes Go.WideShapes Go.ChangeAt Go.RowKit Go.Proofs.Yteokeopiijmfpaa.Oct Go.Proofs.Yteokeopiijmfpaa.Law
open Go.ChangeMaps (open_string shut_string)

theorem own : ownKnob Try.prog.godebug = none := by kernel_rfl
theorem laidOut : laidOutB Try.prog = true := by kernel_rfl
theorem beq_self (s : ByteArray) : (s.toList == s.toList) = true := by simp
theorem size_ok (v n : Nat) (h : n ≤ 8) : (bOf (numS v n)).size ≤ maxLen := by rw [size_bOf, numS_length]; unfold maxLen; omega
theorem getN_num (v n : Nat) (h : v < 256 ^ n) : getN n (bOf (numS v n)) = v := by
  unfold getN
  rw [size_bOf, numS_length, if_neg (by omega), if_neg (by omega), toList_bOf, val_numS, Nat.mod_eq_of_lt h]
theorem getE_num (v n : Nat) : getE n (bOf (numS v n)) = 0 := by
  unfold getE
  rw [size_bOf, numS_length, if_neg (by omega), if_neg (by omega)]
theorem getN_lt (n : Nat) (s : ByteArray) : getN n s < 256 ^ n := by
  unfold getN
  split
  · exact Nat.pow_pos (by omega)
  · split
    · exact Nat.pow_pos (by omega)
    · have h := val_lt s.toList
      rw [← size_toList, show s.size = n by omega] at h
      exact h
theorem num_getN (n : Nat) (s : ByteArray) (h : s.size = n) : bOf (numS (getN n s) n) = s := by
  unfold getN
  rw [if_neg (by omega), if_neg (by omega), ← h, size_toList, numS_val, bOf_toList]
theorem getE_ok (n : Nat) (s : ByteArray) (h : s.size = n) : getE n s = 0 := by
  unfold getE
  rw [if_neg (by omega), if_neg (by omega)]
theorem getE_no (n : Nat) (s : ByteArray) (h : s.size ≠ n) : (getE n s != 0) = true := by
  unfold getE
  split
  · rfl
  · split
    · rfl
    · omega

set_option maxHeartbeats 4000000 in
set_option maxRecDepth 100000 in
theorem walk (v x : Nat) (s : ByteArray) (hv : v < 65536) (hx : x < 4294967296) (hs : s.size ≤ maxLen) (w : World) :
    Calls Try.prog 3 #[.int .u16 v, .int .u32 x, .string s] w fun e w' => e = .returned (.bool true) ∧ Below w.heap.size w w' := by
  have Hs := Lib.hid hs
  have Hv := Lib.hid hv
  have Hx := Lib.hid hx
  unfold maxLen at hs
  have hv1 : (0 : Int) ≤ v := by omega
  have hv2 : (v : Int) ≤ 65535 := by omega
  have hx1 : (0 : Int) ≤ x := by omega
  have hx2 : (x : Int) ≤ 4294967295 := by omega
  clear hv hx
  by_cases h : 1024 < (s.size : Int)
  · go_enter Try.func3, Try.ntmps3
    go_wp2_with fail
    refine (alive_any _).mono ?_
    rintro e w1 ⟨rfl, hb1⟩
    go_wp2_with fail
    go_ret
    exact ⟨rfl, hb1⟩
  · have HE2 := Lib.hid (getE_num v 2)
    have HN2 := Lib.hid (getN_num v 2 Hv.out)
    have HE4 := Lib.hid (getE_num x 4)
    have HN4 := Lib.hid (getN_num x 4 Hx.out)
    have HB2 := Lib.hid (getN_lt 2 s)
    have HB4 := Lib.hid (getN_lt 4 s)
    have hn1 : (0 : Int) ≤ getN 2 s := by omega
    have hn2 : (getN 2 s : Int) ≤ 65535 := by have := HB2.out; omega
    have hn3 : (0 : Int) ≤ getN 4 s := by omega
    have hn4 : (getN 4 s : Int) ≤ 4294967295 := by have := HB4.out; omega
    by_cases h2 : s.size = 2
    · have HG2 := Lib.hid (num_getN 2 s h2)
      have hE2 := getE_ok 2 s h2
      have hE4 := getE_no 4 s (by omega)
      have hsf := beq_self s
      clear h2
      have hx1 := beq_self (bOf (numS v 2))
      have hx2 := beq_self (bOf (numS x 4))
      have h21 : ((getN 2 s : Int) != getN 2 s) = false := by simp
      have h22 : ((getE 2 s : Int) != getE 2 s) = false := by simp
      have h41 : ((getN 4 s : Int) != getN 4 s) = false := by simp
      have h42 : ((getE 4 s : Int) != getE 4 s) = false := by simp
      go_enter Try.func3, Try.ntmps3
      go_wp2_with fail
      refine (calls_below (get16_any s _ Hs.out)).mono ?_
      rintro e w1 ⟨rfl, hb1⟩
      go_wp2_with fail
      refine (calls_below_eq (rget_any s 2 _ Hs.out (by omega))).mono ?_
      rintro e w2 ⟨rfl, hb2⟩
      go_wp2_with fail
      refine (calls_below (get32_any s _ Hs.out)).mono ?_
      rintro e w3 ⟨rfl, hb3⟩
      go_wp2_with fail
      refine (calls_below_eq (rget_any s 4 _ Hs.out (by omega))).mono ?_
      rintro e w4 ⟨rfl, hb4⟩
      go_wp2_with fail
      refine (put16_any v _ Hv.out).mono ?_
      rintro e w5 ⟨rfl, hb5⟩
      go_wp2_with fail
      refine (rnum_any v 2 _ (by have := Hv.out; omega) (by omega)).mono ?_
      rintro e w6 ⟨rfl, hb6⟩
      go_wp2_with fail
      refine (put32_any x _ Hx.out).mono ?_
      rintro e w7 ⟨rfl, hb7⟩
      go_wp2_with fail
      refine (rnum_any x 4 _ (by have := Hx.out; omega) (by omega)).mono ?_
      rintro e w8 ⟨rfl, hb8⟩
      go_wp2_with fail
      refine (put16_any v _ Hv.out).mono ?_
      rintro e w9 ⟨rfl, hb9⟩
      go_wp2_with fail
      refine (calls_below (get16_any (bOf (numS v 2)) _ (size_ok _ _ (by omega)))).mono ?_
      rw [HE2.out, HN2.out]
      rintro e w10 ⟨rfl, hb10⟩
      go_wp2_with fail
      refine (put32_any x _ Hx.out).mono ?_
      rintro e w11 ⟨rfl, hb11⟩
      go_wp2_with fail
      refine (calls_below (get32_any (bOf (numS x 4)) _ (size_ok _ _ (by omega)))).mono ?_
      rw [HE4.out, HN4.out]
      rintro e w12 ⟨rfl, hb12⟩
      go_wp2_with fail
      refine (put16_any (getN 2 s) _ HB2.out).mono ?_
      rw [HG2.out]
      rintro e w13 ⟨rfl, hb13⟩
      go_wp2_with fail
      refine (alive_any _).mono ?_
      rintro e w14 ⟨rfl, hb14⟩
      go_wp2_with fail
      go_ret
      have B1 := hb1
      have B2 := B1.trans (hb2.mono B1.size)
      have B3 := B2.trans (hb3.mono B2.size)
      have B4 := B3.trans (hb4.mono B3.size)
      have B5 := B4.trans (hb5.mono B4.size)
      have B6 := B5.trans (hb6.mono B5.size)
      have B7 := B6.trans (hb7.mono B6.size)
      have B8 := B7.trans (hb8.mono B7.size)
      have B9 := B8.trans (hb9.mono B8.size)
      have B10 := B9.trans (hb10.mono B9.size)
      have B11 := B10.trans (hb11.mono B10.size)
      have B12 := B11.trans (hb12.mono B11.size)
      have B13 := B12.trans (hb13.mono B12.size)
      have B14 := B13.trans (hb14.mono B13.size)
      exact ⟨rfl, B14⟩
    · have hE2 := getE_no 2 s h2
      clear h2
      by_cases h4 : s.size = 4
      · have HG4 := Lib.hid (num_getN 4 s h4)
        have hE4 := getE_ok 4 s h4
        have hsf := beq_self s
        clear h4
        have hx1 := beq_self (bOf (numS v 2))
        have hx2 := beq_self (bOf (numS x 4))
        have h21 : ((getN 2 s : Int) != getN 2 s) = false := by simp
        have h22 : ((getE 2 s : Int) != getE 2 s) = false := by simp
        have h41 : ((getN 4 s : Int) != getN 4 s) = false := by simp
        have h42 : ((getE 4 s : Int) != getE 4 s) = false := by simp
        go_enter Try.func3, Try.ntmps3
        go_wp2_with fail
        refine (calls_below (get16_any s _ Hs.out)).mono ?_
        rintro e w1 ⟨rfl, hb1⟩
        go_wp2_with fail
        refine (calls_below_eq (rget_any s 2 _ Hs.out (by omega))).mono ?_
        rintro e w2 ⟨rfl, hb2⟩
        go_wp2_with fail
        refine (calls_below (get32_any s _ Hs.out)).mono ?_
        rintro e w3 ⟨rfl, hb3⟩
        go_wp2_with fail
        refine (calls_below_eq (rget_any s 4 _ Hs.out (by omega))).mono ?_
        rintro e w4 ⟨rfl, hb4⟩
        go_wp2_with fail
        refine (put16_any v _ Hv.out).mono ?_
        rintro e w5 ⟨rfl, hb5⟩
        go_wp2_with fail
        refine (rnum_any v 2 _ (by have := Hv.out; omega) (by omega)).mono ?_
        rintro e w6 ⟨rfl, hb6⟩
        go_wp2_with fail
        refine (put32_any x _ Hx.out).mono ?_
        rintro e w7 ⟨rfl, hb7⟩
        go_wp2_with fail
        refine (rnum_any x 4 _ (by have := Hx.out; omega) (by omega)).mono ?_
        rintro e w8 ⟨rfl, hb8⟩
        go_wp2_with fail
        refine (put16_any v _ Hv.out).mono ?_
        rintro e w9 ⟨rfl, hb9⟩
        go_wp2_with fail
        refine (calls_below (get16_any (bOf (numS v 2)) _ (size_ok _ _ (by omega)))).mono ?_
        rw [HE2.out, HN2.out]
        rintro e w10 ⟨rfl, hb10⟩
        go_wp2_with fail
        refine (put32_any x _ Hx.out).mono ?_
        rintro e w11 ⟨rfl, hb11⟩
        go_wp2_with fail
        refine (calls_below (get32_any (bOf (numS x 4)) _ (size_ok _ _ (by omega)))).mono ?_
        rw [HE4.out, HN4.out]
        rintro e w12 ⟨rfl, hb12⟩
        go_wp2_with fail
        refine (put32_any (getN 4 s) _ HB4.out).mono ?_
        rw [HG4.out]
        rintro e w13 ⟨rfl, hb13⟩
        go_wp2_with fail
        refine (alive_any _).mono ?_
        rintro e w14 ⟨rfl, hb14⟩
        go_wp2_with fail
        go_ret
        have B1 := hb1
        have B2 := B1.trans (hb2.mono B1.size)
        have B3 := B2.trans (hb3.mono B2.size)
        have B4 := B3.trans (hb4.mono B3.size)
        have B5 := B4.trans (hb5.mono B4.size)
        have B6 := B5.trans (hb6.mono B5.size)
        have B7 := B6.trans (hb7.mono B6.size)
        have B8 := B7.trans (hb8.mono B7.size)
        have B9 := B8.trans (hb9.mono B8.size)
        have B10 := B9.trans (hb10.mono B9.size)
        have B11 := B10.trans (hb11.mono B10.size)
        have B12 := B11.trans (hb12.mono B11.size)
        have B13 := B12.trans (hb13.mono B12.size)
        have B14 := B13.trans (hb14.mono B13.size)
        exact ⟨rfl, B14⟩
      · have hE4 := getE_no 4 s h4
        clear h4
        have hx1 := beq_self (bOf (numS v 2))
        have hx2 := beq_self (bOf (numS x 4))
        have h21 : ((getN 2 s : Int) != getN 2 s) = false := by simp
        have h22 : ((getE 2 s : Int) != getE 2 s) = false := by simp
        have h41 : ((getN 4 s : Int) != getN 4 s) = false := by simp
        have h42 : ((getE 4 s : Int) != getE 4 s) = false := by simp
        go_enter Try.func3, Try.ntmps3
        go_wp2_with fail
        refine (calls_below (get16_any s _ Hs.out)).mono ?_
        rintro e w1 ⟨rfl, hb1⟩
        go_wp2_with fail
        refine (calls_below_eq (rget_any s 2 _ Hs.out (by omega))).mono ?_
        rintro e w2 ⟨rfl, hb2⟩
        go_wp2_with fail
        refine (calls_below (get32_any s _ Hs.out)).mono ?_
        rintro e w3 ⟨rfl, hb3⟩
        go_wp2_with fail
        refine (calls_below_eq (rget_any s 4 _ Hs.out (by omega))).mono ?_
        rintro e w4 ⟨rfl, hb4⟩
        go_wp2_with fail
        refine (put16_any v _ Hv.out).mono ?_
        rintro e w5 ⟨rfl, hb5⟩
        go_wp2_with fail
        refine (rnum_any v 2 _ (by have := Hv.out; omega) (by omega)).mono ?_
        rintro e w6 ⟨rfl, hb6⟩
        go_wp2_with fail
        refine (put32_any x _ Hx.out).mono ?_
        rintro e w7 ⟨rfl, hb7⟩
        go_wp2_with fail
        refine (rnum_any x 4 _ (by have := Hx.out; omega) (by omega)).mono ?_
        rintro e w8 ⟨rfl, hb8⟩
        go_wp2_with fail
        refine (put16_any v _ Hv.out).mono ?_
        rintro e w9 ⟨rfl, hb9⟩
        go_wp2_with fail
        refine (calls_below (get16_any (bOf (numS v 2)) _ (size_ok _ _ (by omega)))).mono ?_
        rw [HE2.out, HN2.out]
        rintro e w10 ⟨rfl, hb10⟩
        go_wp2_with fail
        refine (put32_any x _ Hx.out).mono ?_
        rintro e w11 ⟨rfl, hb11⟩
        go_wp2_with fail
        refine (calls_below (get32_any (bOf (numS x 4)) _ (size_ok _ _ (by omega)))).mono ?_
        rw [HE4.out, HN4.out]
        rintro e w12 ⟨rfl, hb12⟩
        go_wp2_with fail
        refine (alive_any _).mono ?_
        rintro e w13 ⟨rfl, hb13⟩
        go_wp2_with fail
        go_ret
        have B1 := hb1
        have B2 := B1.trans (hb2.mono B1.size)
        have B3 := B2.trans (hb3.mono B2.size)
        have B4 := B3.trans (hb4.mono B3.size)
        have B5 := B4.trans (hb5.mono B4.size)
        have B6 := B5.trans (hb6.mono B5.size)
        have B7 := B6.trans (hb7.mono B6.size)
        have B8 := B7.trans (hb8.mono B7.size)
        have B9 := B8.trans (hb9.mono B8.size)
        have B10 := B9.trans (hb10.mono B9.size)
        have B11 := B10.trans (hb11.mono B10.size)
        have B12 := B11.trans (hb12.mono B11.size)
        have B13 := B12.trans (hb13.mono B12.size)
        exact ⟨rfl, B13⟩

set_option maxRecDepth 100000 in
theorem lifted (os : Os) (started : os.Started) (H : Type) (enc : TypeId × Value → H) :
    ReturnsInHanded {} Try.checked os 3 .any (Rows.octetNumbersSpec.pre6 enc Try.prog Try.f3 Rows.octetNumbersRow.domain false) (Rows.octetNumbersSpec.post enc Try.prog Try.f3 false true false false) := by
  refine returnsInHanded_of_change (C := Try.checked) own started (by kernel_rfl) Try.func3
    (ChangeSpec.witness6 (enc := enc) (C := Try.checked) false ⟨#[], #[.int .u16 0, .int .u32 0, .string ByteArray.empty], []⟩ 8 (by kernel_rfl) (by kernel_rfl) (by kernel_rfl) (by kernel_rfl)) ?_
  intro W base args ds gs before hval0 hW hcnd _
  have hval : ∀ (j : Nat) t v, Try.f3.params[j]? = some t → args[j]? = some v → Value.okWide Try.prog W .any base t v := hval0
  have hW' := hW
  obtain ⟨p, q, hA0, hV, rfl, hfz, hnd⟩ := hW
  have hlt := hW'.lt
  have hA : DataW.TrodAll enc Try.prog W 0 (fun _ => true) true Try.f3.params.toList args.toList ds p := hA0
  rw [Try.params3] at hA hval
  obtain ⟨v0, vs0, d0, ds0, p0, q0, hargs, rfl, rfl, h0, r0⟩ := trodAll_cons hA
  obtain ⟨v1, vs1, d1, ds1, p1, q1, rfl, rfl, rfl, h1, r1⟩ := trodAll_cons r0
  obtain ⟨v2, vs2, d2, ds2, p2, q2, rfl, rfl, rfl, h2, r2⟩ := trodAll_cons r1
  obtain ⟨rfl, rfl, rfl⟩ := trodAll_nil r2
  obtain rfl : args = #[v0, v1, v2] := by cases args; simp_all
  obtain ⟨rfl, rfl⟩ := trodVars_none hV
  obtain ⟨z0, rfl, rfl, rfl, w0⟩ := open_int Try.underlying22 (hval 0 22 v0 rfl rfl) h0
  obtain ⟨a0, rfl⟩ : ∃ n : Nat, z0 = n := ⟨z0.toNat, by have := bounds_u16 w0; omega⟩
  have b0 := bounds_u16 w0
  obtain ⟨z1, rfl, rfl, rfl, w1⟩ := open_int Try.underlying23 (hval 1 23 v1 rfl rfl) h1
  obtain ⟨a1, rfl⟩ : ∃ n : Nat, z1 = n := ⟨z1.toNat, by have := bounds_u32 w1; omega⟩
  have b1 := bounds_u32 w1
  obtain ⟨a2, rfl, rfl, rfl, w2⟩ := open_string Try.underlying9 (hval 2 9 v2 rfl rfl) h2
  clear hA0 hval0
  exact (walk a0 a1 a2 (by omega) (by omega) w2 W).mono fun e W' ⟨he, hb⟩ => ⟨_, he, law_post (t := 4) laidOut (by kernel_rfl) rfl rfl Try.underlying4 ⟨rfl, rfl, rfl⟩ hW' hb⟩

theorem over : Rows.octetNumbersRow.holds Try.pinned (OpenSpec.ofChange Rows.octetNumbersSpec) :=
  OpenClaim.holds_of_wide 3 Try.f3 rfl rfl rfl rfl rfl rfl rfl ⟨rfl, rfl, rfl, rfl, rfl⟩ rfl rfl rfl rfl rfl (by kernel_rfl) Try.func3 (by kernel_rfl)
    (of_decide_eq_true (by kernel_rfl)) (by unfold Func.isWrapper; first | (rw [if_pos (by decide +kernel)]; kernel_rfl) | (rw [if_neg (by decide +kernel)]; exact ⟨rfl, rfl⟩))
    (fun os started H enc _ => lifted os started H enc)

theorem proved : Rows.OctetNumbersSaid :=
  over
#print axioms proved
end Go.Proofs.Yteokeopiijmfpaa.OctetNumbers
