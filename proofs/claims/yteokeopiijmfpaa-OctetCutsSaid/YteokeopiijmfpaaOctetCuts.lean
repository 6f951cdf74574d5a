/- PROVED: 'halyardlaw01.OctetCuts' returns true for every text and every number, and leaves them as they were. No condition. -/
import Derived.Test.YteokeopiijmfpaaOctH
import Derived.Test.YteokeopiijmfpaaLaw
import Derived.Test.YteokeopiijmfpaaRows
namespace Go.Proofs.Yteokeopiijmfpaa.OctetCuts
open Go.ChangeShapes Go.WideShapes Go.ChangeAt Go.RowKit Go.Proofs.Yteokeopiijmfpaa.Oct Go.Proofs.Yteokeopiijmfpaa.Law
open Go.ChangeMaps (open_string shut_string)

theorem own : ownKnob Try.prog.godebug = none := by kernel_rfl
theorem laidOut : laidOutB Try.prog = true := by kernel_rfl

theorem beq_self (s : ByteArray) : (s.toList == s.toList) = true := by simp

theorem cut_back (s : ByteArray) (n : Int) (h : cutE s n = 0) : ((cutA s n ++ cutB s n).toList == s.toList) = true ∧ (((cutA s n).size : Int) == n) = true ∧ (cutA s n).size + (cutB s n).size ≤ s.size := by
  unfold cutE at h
  by_cases h0 : n < 0
  · simp [h0] at h
  · by_cases h1 : (s.size : Int) < n
    · simp [h0, h1] at h
    · have e1 : cutA s n = bOf (s.toList.take n.toNat) := by simp [cutA, h0, h1]
      have e2 : cutB s n = bOf (s.toList.drop n.toNat) := by simp [cutB, h0, h1]
      have hz := size_toList s
      rw [e1, e2, append_bOf, toList_bOf, toList_bOf, toList_bOf, List.take_append_drop, size_bOf, size_bOf, List.length_take, List.length_drop]
      refine ⟨by simp, ?_, by omega⟩
      rw [beq_iff_eq]
      omega

set_option maxHeartbeats 1000000 in
theorem walk (s : ByteArray) (n : Int) (hs : s.size ≤ maxLen) (w : World) :
    Calls Try.prog 4 #[.string s, .int .i64 n] w fun e w' => e = .returned (.bool true) ∧ Below w.heap.size w w' := by
  have Hs := Lib.hid hs
  unfold maxLen at hs
  by_cases h : 32768 < (s.size : Int)
  · go_enter Try.func4, Try.ntmps4
    go_wp2_with fail
    refine (alive_any _).mono ?_
    rintro e w1 ⟨rfl, hb1⟩
    go_wp2_with fail
    go_ret
    exact ⟨rfl, hb1⟩
  · have h1 := beq_self (cutA s n)
    have h2 := beq_self (cutB s n)
    by_cases hE : cutE s n = 0
    · obtain ⟨h3, h4, h5⟩ := cut_back s n hE
      go_enter Try.func4, Try.ntmps4
      go_wp2_with fail
      refine (calls_below (cut_any s n _ Hs.out)).mono ?_
      rintro e w1 ⟨rfl, hb1⟩
      go_wp2_with fail
      refine (calls_below (rcut_any s n _ Hs.out)).mono ?_
      rintro e w2 ⟨rfl, hb2⟩
      go_wp2_with fail
      refine (alive_any _).mono ?_
      rintro e w3 ⟨rfl, hb3⟩
      go_wp2_with fail
      go_ret
      have B2 := hb1.trans (hb2.mono hb1.size)
      exact ⟨rfl, B2.trans (hb3.mono B2.size)⟩
    · have h3 : (cutE s n != 0) = true := by simpa using hE
      have h4 : (cutE s n == cutE s n) = true := by simp
      clear hE
      go_enter Try.func4, Try.ntmps4
      go_wp2_with fail
      refine (calls_below (cut_any s n _ Hs.out)).mono ?_
      rintro e w1 ⟨rfl, hb1⟩
      go_wp2_with fail
      refine (calls_below (rcut_any s n _ Hs.out)).mono ?_
      rintro e w2 ⟨rfl, hb2⟩
      go_wp2_with fail
      refine (alive_any _).mono ?_
      rintro e w3 ⟨rfl, hb3⟩
      go_wp2_with fail
      go_ret
      have B2 := hb1.trans (hb2.mono hb1.size)
      exact ⟨rfl, B2.trans (hb3.mono B2.size)⟩

set_option maxRecDepth 100000 in
theorem lifted (os : Os) (started : os.Started) (H : Type) (enc : TypeId × Value → H) :
    ReturnsInHanded {} Try.checked os 4 .any (Rows.octetCutsSpec.pre6 enc Try.prog Try.f4 Rows.octetCutsRow.domain false) (Rows.octetCutsSpec.post enc Try.prog Try.f4 false true false false) := by
  refine returnsInHanded_of_change (C := Try.checked) own started (by kernel_rfl) Try.func4
    (ChangeSpec.witness6 (enc := enc) (C := Try.checked) false ⟨#[], #[.string ByteArray.empty, .int .i64 0], []⟩ 8 (by kernel_rfl) (by kernel_rfl) (by kernel_rfl) (by kernel_rfl)) ?_
  intro W base args ds gs before hval0 hW hcnd _
  have hval : ∀ (j : Nat) t v, Try.f4.params[j]? = some t → args[j]? = some v → Value.okWide Try.prog W .any base t v := hval0
  have hW' := hW
  obtain ⟨p, q, hA0, hV, rfl, hfz, hnd⟩ := hW
  have hA : DataW.TrodAll enc Try.prog W 0 (fun _ => true) true Try.f4.params.toList args.toList ds p := hA0
  rw [Try.params4] at hA hval
  obtain ⟨v0, vs0, d0, ds0, p0, q0, hargs, rfl, rfl, h0, r0⟩ := trodAll_cons hA
  obtain ⟨v1, vs1, d1, ds1, p1, q1, rfl, rfl, rfl, h1, r1⟩ := trodAll_cons r0
  obtain ⟨rfl, rfl, rfl⟩ := trodAll_nil r1
  obtain rfl : args = #[v0, v1] := by cases args; simp_all
  obtain ⟨rfl, rfl⟩ := trodVars_none hV
  obtain ⟨a0, rfl, rfl, rfl, w0⟩ := open_string Try.underlying9 (hval 0 9 v0 rfl rfl) h0
  obtain ⟨a1, rfl, rfl, rfl, w1⟩ := open_int Try.underlying3 (hval 1 3 v1 rfl rfl) h1
  clear hA0 hval0
  exact (walk a0 a1 w0 W).mono fun e W' ⟨he, hb⟩ => ⟨_, he, law_post (t := 4) laidOut (by kernel_rfl) rfl rfl Try.underlying4 ⟨rfl, rfl, rfl⟩ hW' hb⟩

theorem over : Rows.octetCutsRow.holds Try.pinned (OpenSpec.ofChange Rows.octetCutsSpec) :=
  OpenClaim.holds_of_wide 4 Try.f4 rfl rfl rfl rfl rfl rfl rfl ⟨rfl, rfl, rfl, rfl, rfl⟩ rfl rfl rfl rfl rfl (by kernel_rfl) Try.func4 (by kernel_rfl)
    (of_decide_eq_true (by kernel_rfl)) (by unfold Func.isWrapper; first | (rw [if_pos (by decide +kernel)]; kernel_rfl) | (rw [if_neg (by decide +kernel)]; exact ⟨rfl, rfl⟩))
    (fun os started H enc _ => lifted os started H enc)

theorem proved : Rows.OctetCutsSaid :=
  over
#print axioms proved
end Go.Proofs.Yteokeopiijmfpaa.OctetCuts
