/- PROVED: 'halyardlaw02.FcsBack' returns true for every two texts and every register, and leaves them as they were. No condition. -/
import Derived.Test.YtikgcngolicbfaaFcsG
import Derived.Test.YtikgcngolicbfaaLaw
import Derived.Test.YtikgcngolicbfaaRows
import Derived.SizedLaws
namespace Go.Proofs.Ytikgcngolicbfaa.FcsBack
open Go.ChangeShapes Go.WideShapes Go.ChangeAt Go.RowKit Go.Proofs.Ytikgcngolicbfaa.Oct Go.Proofs.Ytikgcngolicbfaa.Fcs Go.Proofs.Ytikgcngolicbfaa.Law
open Go.ChangeMaps (open_string shut_string)

theorem toList_append (s t : ByteArray) : (s ++ t).toList = s.toList ++ t.toList := by rw [append_bOf, toList_bOf]
theorem open_seal (s : ByteArray) : openA (bOf (seal_ s.toList)) = s ∧ openE (bOf (seal_ s.toList)) = 0 := by
  have h1 : ¬ (bOf (seal_ s.toList)).size < 2 := by rw [size_bOf, seal_length]; omega
  unfold openA openE
  rw [if_neg h1, if_neg h1, toList_bOf, good_seal, if_pos rfl, if_pos rfl, size_bOf, seal_length]
  refine ⟨?_, rfl⟩
  rw [show s.toList.length + 2 - 2 = s.toList.length by omega]
  unfold seal_
  rw [List.take_left, bOf_toList]
theorem open_good (t : ByteArray) (h : good t.toList = true) : openE t = 0 ∧ bOf (seal_ (openA t).toList) = t := by
  have h1 : ¬ t.size < 2 := fun e => by rw [good_short t e] at h; cases h
  unfold openA openE
  rw [if_neg h1, if_neg h1, h, if_pos rfl, if_pos rfl, toList_bOf]
  refine ⟨rfl, ?_⟩
  have := seal_good t.toList h
  rw [← size_toList] at this
  rw [this, bOf_toList]
theorem open_bad (t : ByteArray) (h : good t.toList = false) : (openE t == 0) = false ∧ (openE t != 0) = true := by
  unfold openE
  rw [h]
  split <;> exact ⟨rfl, rfl⟩
theorem openA_size (t : ByteArray) : (openA t).size ≤ t.size := by
  unfold openA
  split
  · exact Nat.zero_le _
  · split
    · rw [size_bOf, List.length_take]; omega
    · exact Nat.zero_le _

set_option maxHeartbeats 4000000 in
set_option maxRecDepth 100000 in
theorem walk (s t : ByteArray) (c : Nat) (hc : c < 65536) (hs : s.size ≤ 140737488351232) (ht : t.size ≤ 140737488351232) (w : World) :
    Calls Try.prog 4 #[.string s, .string t, .int .u16 c] w fun e w' => e = .returned (.bool true) ∧ Below w.heap.size w w' := by
  have Hc := Lib.hid hc; clear hc
  by_cases h : 8192 < (s.size : Int) + (t.size : Int)
  · go_enter Try.func4, Try.ntmps4
    go_wp2_with fail
    refine (alive_any _).mono ?_
    rintro e w1 ⟨rfl, hb1⟩
    go_wp2_with fail
    go_ret
    have B1 := hb1
    exact ⟨rfl, B1⟩
  · have h1 : s.size ≤ 8192 := by omega
    have h2 : t.size ≤ 8192 := by omega
    have Hz : Hid ((bOf (seal_ s.toList)).size ≤ 1048576) := by show _ ≤ _; rw [size_bOf, seal_length, ← size_toList]; omega
    have Hst : Hid ((s ++ t).size ≤ maxLen) := by show _ ≤ _; rw [ByteArray.size_append]; unfold maxLen; omega
    have HO := Lib.hid (open_seal s)
    have HG : Hid (good (bOf (seal_ s.toList)).toList = true) := by show _ = _; rw [toList_bOf]; exact good_seal _
    have HM : Hid (more c (s ++ t).toList = more (more c s.toList) t.toList) := by show _ = _; rw [toList_append, more_append]
    have HL := Lib.hid (more_lt c s.toList Hc.out)
    have hx1 := beq_self s
    have hx2 := beq_self t
    have hx3 : (s.toList != s.toList) = false := by simp
    have hx4 : (((more (more c s.toList) t.toList : Nat) : Int) != ((more (more c s.toList) t.toList : Nat) : Int)) = false := by simp
    have h3 : s.size ≤ 1048576 := by omega
    have h4 : t.size ≤ 1048576 := by omega
    have Hs := Lib.hid (show s.size ≤ maxLen by unfold maxLen; omega)
    have Ht := Lib.hid (show t.size ≤ maxLen by unfold maxLen; omega)
    have Ha : Hid ((openA t).size ≤ 1048576) := Nat.le_trans (openA_size t) (by omega)
    cases hg : good t.toList
    · have hE := open_bad t hg
      have hE1 := hE.1
      have hE2 := hE.2
      have Hg := Lib.hid hg
      clear hg hE
      go_enter Try.func4, Try.ntmps4
      go_wp2_with fail
      refine (seal_any s _ h3).mono ?_
      rintro e w1 ⟨rfl, hb1⟩
      go_wp2_with fail
      refine (open_any (bOf (seal_ s.toList)) _ Hz.out).mono ?_
      rw [HO.out.1, HO.out.2]
      rintro e w2 ⟨rfl, hb2⟩
      go_wp2_with fail
      refine (seal_any s _ h3).mono ?_
      rintro e w3 ⟨rfl, hb3⟩
      go_wp2_with fail
      refine (good_any (bOf (seal_ s.toList)) _ Hz.out).mono ?_
      rw [HG.out]
      rintro e w4 ⟨rfl, hb4⟩
      go_wp2_with fail
      refine (more_any c (s ++ t) _ Hc.out Hst.out).mono ?_
      rw [HM.out]
      rintro e w5 ⟨rfl, hb5⟩
      go_wp2_with fail
      refine (more_any c s _ Hc.out Hs.out).mono ?_
      rintro e w6 ⟨rfl, hb6⟩
      go_wp2_with fail
      refine (more_any (more c s.toList) t _ HL.out Ht.out).mono ?_
      rintro e w7 ⟨rfl, hb7⟩
      go_wp2_with fail
      refine (open_any t _ h4).mono ?_
      rintro e w8 ⟨rfl, hb8⟩
      go_wp2_with fail
      refine (good_any t _ h4).mono ?_
      rw [Hg.out]
      rintro e w9 ⟨rfl, hb9⟩
      go_wp2_with fail
      refine (alive_any _).mono ?_
      rintro e w10 ⟨rfl, hb10⟩
      go_wp2_with fail
      go_ret
      have B1 := hb1
      have B2 := B1.trans (hb2.mono B1.size)
      have B3 := B2.trans (hb3.mono B2.size)
      have B4 := B3.trans (hb4.mono B3.size)
      have B5 := B4.trans (hb5.mono B4.size)
      have B6 := B5.trans (hb6.mono B5.size)
      have B7 := B6.trans (hb7.mono B6.size)
      have B8 := B7.trans (hb8.mono B7.size)
      have B9 := B8.trans (hb9.mono B8.size)
      have B10 := B9.trans (hb10.mono B9.size)
      exact ⟨rfl, B10⟩
    · have HE := Lib.hid (open_good t hg)
      have Hg := Lib.hid hg
      clear hg
      go_enter Try.func4, Try.ntmps4
      go_wp2_with fail
      refine (seal_any s _ h3).mono ?_
      rintro e w1 ⟨rfl, hb1⟩
      go_wp2_with fail
      refine (open_any (bOf (seal_ s.toList)) _ Hz.out).mono ?_
      rw [HO.out.1, HO.out.2]
      rintro e w2 ⟨rfl, hb2⟩
      go_wp2_with fail
      refine (seal_any s _ h3).mono ?_
      rintro e w3 ⟨rfl, hb3⟩
      go_wp2_with fail
      refine (good_any (bOf (seal_ s.toList)) _ Hz.out).mono ?_
      rw [HG.out]
      rintro e w4 ⟨rfl, hb4⟩
      go_wp2_with fail
      refine (more_any c (s ++ t) _ Hc.out Hst.out).mono ?_
      rw [HM.out]
      rintro e w5 ⟨rfl, hb5⟩
      go_wp2_with fail
      refine (more_any c s _ Hc.out Hs.out).mono ?_
      rintro e w6 ⟨rfl, hb6⟩
      go_wp2_with fail
      refine (more_any (more c s.toList) t _ HL.out Ht.out).mono ?_
      rintro e w7 ⟨rfl, hb7⟩
      go_wp2_with fail
      refine (open_any t _ h4).mono ?_
      rw [HE.out.1]
      rintro e w8 ⟨rfl, hb8⟩
      go_wp2_with fail
      refine (good_any t _ h4).mono ?_
      rw [Hg.out]
      rintro e w9 ⟨rfl, hb9⟩
      go_wp2_with fail
      refine (seal_any (openA t) _ Ha.out).mono ?_
      rw [HE.out.2]
      rintro e w10 ⟨rfl, hb10⟩
      go_wp2_with fail
      refine (alive_any _).mono ?_
      rintro e w11 ⟨rfl, hb11⟩
      go_wp2_with fail
      go_ret
      have B1 := hb1
      have B2 := B1.trans (hb2.mono B1.size)
      have B3 := B2.trans (hb3.mono B2.size)
      have B4 := B3.trans (hb4.mono B3.size)
      have B5 := B4.trans (hb5.mono B4.size)
      have B6 := B5.trans (hb6.mono B5.size)
      have B7 := B6.trans (hb7.mono B6.size)
      have B8 := B7.trans (hb8.mono B7.size)
      have B9 := B8.trans (hb9.mono B8.size)
      have B10 := B9.trans (hb10.mono B9.size)
      have B11 := B10.trans (hb11.mono B10.size)
      exact ⟨rfl, B11⟩

set_option maxRecDepth 100000 in
theorem lifted (os : Os) (started : os.Started) (H : Type) (enc : TypeId × Value → H) :
    ReturnsInHanded {} Try.checked os 4 .any (Rows.fcsBackSpec.pre6 enc Try.prog Try.f4 Rows.fcsBackRow.domain false) (Rows.fcsBackSpec.post enc Try.prog Try.f4 false true false false) := by
  refine returnsInHanded_of_change_sized (C := Try.checked) own started (by kernel_rfl) Try.func4
    (ChangeSpec.witness6 (enc := enc) (C := Try.checked) false ⟨#[], #[.string ByteArray.empty, .string ByteArray.empty, .int .u16 0], []⟩ 8 (by kernel_rfl) (by kernel_rfl) (by kernel_rfl) (by kernel_rfl)) ?_
  intro W base args ds gs before hval0 hW hcnd hsz0 _
  have hsz : (DataW.weightsEach Try.prog (Try.f4.params.toList ++ Rows.fcsBackSpec.plain.varTypes Try.prog) (ds ++ gs)).all (· ≤ reachBytes) = true := hsz0
  have hval : ∀ (j : Nat) t v, Try.f4.params[j]? = some t → args[j]? = some v → Value.okWide Try.prog W .any base t v := hval0
  have hW' := hW
  obtain ⟨p, q, hA0, hV, rfl, hfz, hnd⟩ := hW
  have hlt := hW'.lt
  have hA : DataW.TrodAll enc Try.prog W 0 (fun _ => true) true Try.f4.params.toList args.toList ds p := hA0
  rw [Try.params4] at hA hval hsz
  obtain ⟨v0, vs0, d0, ds0, p0, q0, hargs, rfl, rfl, h0, r0⟩ := trodAll_cons hA
  obtain ⟨v1, vs1, d1, ds1, p1, q1, rfl, rfl, rfl, h1, r1⟩ := trodAll_cons r0
  obtain ⟨v2, vs2, d2, ds2, p2, q2, rfl, rfl, rfl, h2, r2⟩ := trodAll_cons r1
  obtain ⟨rfl, rfl, rfl⟩ := trodAll_nil r2
  obtain rfl : args = #[v0, v1, v2] := by cases args; simp_all
  obtain ⟨rfl, rfl⟩ := trodVars_none hV
  obtain ⟨a0, rfl, rfl, rfl, w0⟩ := open_string Try.underlying9 (hval 0 9 v0 rfl rfl) h0
  obtain ⟨a1, rfl, rfl, rfl, w1⟩ := open_string Try.underlying9 (hval 1 9 v1 rfl rfl) h1
  obtain ⟨z2, rfl, rfl, rfl, w2⟩ := open_int Try.underlying22 (hval 2 22 v2 rfl rfl) h2
  obtain ⟨a2, rfl⟩ : ∃ n : Nat, z2 = n := ⟨z2.toNat, by have := bounds_u16 w2; omega⟩
  have b2 := bounds_u16 w2
  have z0 : a0.size ≤ 140737488351232 := by have h := sized_string hsz (j := 0) (t := 9) rfl rfl; rw [Array.length_toList] at h; exact h
  have z1 : a1.size ≤ 140737488351232 := by have h := sized_string hsz (j := 1) (t := 9) rfl rfl; rw [Array.length_toList] at h; exact h
  clear hA0 hval0 hsz0
  exact (walk a0 a1 a2 (by omega) z0 z1 W).mono fun e W' ⟨he, hb⟩ => ⟨_, he, law_post (t := 4) laidOut (by kernel_rfl) rfl rfl Try.underlying4 ⟨rfl, rfl, rfl⟩ hW' hb⟩

theorem over : Rows.fcsBackRow.holds Try.pinned (OpenSpec.ofChange Rows.fcsBackSpec) :=
  OpenClaim.holds_of_wide 4 Try.f4 rfl rfl rfl rfl rfl rfl rfl ⟨rfl, rfl, rfl, rfl, rfl⟩ rfl rfl rfl rfl rfl (by kernel_rfl) Try.func4 (by kernel_rfl)
    (of_decide_eq_true (by kernel_rfl)) (by unfold Func.isWrapper; first | (rw [if_pos (by decide +kernel)]; kernel_rfl) | (rw [if_neg (by decide +kernel)]; exact ⟨rfl, rfl⟩))
    (fun os started H enc _ => lifted os started H enc)

theorem proved : Rows.FcsBackSaid :=
  over
#print axioms proved
end Go.Proofs.Ytikgcngolicbfaa.FcsBack
