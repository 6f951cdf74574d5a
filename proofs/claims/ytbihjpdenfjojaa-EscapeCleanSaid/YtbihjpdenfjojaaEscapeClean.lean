/- PROVED: 'halyardlaw03.EscapeClean' returns true for every two texts and every map, and leaves them as they were. No condition. -/
import Derived.Test.YtbihjpdenfjojaaEscH
import Derived.Test.YtbihjpdenfjojaaLaw
import Derived.Test.YtbihjpdenfjojaaRows
import Derived.SizedLaws
namespace Go.Proofs.Ytbihjpdenfjojaa.EscapeClean
open Go.ChangeShapes Go.WideShapes Go.ChangeAt Go.RowKit Go.Proofs.Ytbihjpdenfjojaa.Oct Go.Proofs.Ytbihjpdenfjojaa.Row Go.Proofs.Ytbihjpdenfjojaa.Esc Go.Proofs.Ytbihjpdenfjojaa.Law
open Go.ChangeMaps (open_string shut_string)

theorem toList_append (s t : ByteArray) : (s ++ t).toList = s.toList ++ t.toList := by rw [append_bOf, toList_bOf]
theorem no_flag (x : UInt8) (h : x ≠ 126) : ((x.toNat : Int) == 126) = false := no_int x 126 (by omega) h

set_option maxHeartbeats 4000000 in
set_option maxRecDepth 100000 in
theorem walk (s t : ByteArray) (a : Nat) (hs : s.size ≤ 140737488351232) (ht : t.size ≤ 140737488351232) (ha : a < 4294967296) (w : World) :
    Calls Try.prog 5 #[.string s, .string t, .int .u32 a] w fun e w' => e = .returned (.bool true) ∧ Below w.heap.size w w' := by
  have Ha := Lib.hid ha; clear ha
  by_cases h : 8192 < (s.size : Int) + (t.size : Int)
  · go_enter Try.func5, Try.ntmps5
    go_wp2_with fail
    refine (alive_any _).mono ?_
    rintro e w1 ⟨rfl, hb1⟩
    go_wp2_with fail
    go_ret
    have B1 := hb1
    exact ⟨rfl, B1⟩
  · have h1 : s.size ≤ 8192 := by omega
    have h2 : t.size ≤ 8192 := by omega
    have Hs := Lib.hid (show s.size ≤ 1048576 by omega)
    have Ht := Lib.hid (show t.size ≤ 1048576 by omega)
    have Hst : Hid ((s ++ t).size ≤ 1048576) := by show _ ≤ _; rw [ByteArray.size_append]; omega
    have HP : Hid (bOf (put a (s ++ t).toList) = bOf (put a s.toList) ++ bOf (put a t.toList)) := by show _ = _; rw [toList_append, put_append, append_bOf, toList_bOf, toList_bOf]
    have HT := Lib.hid (toList_bOf (put a s.toList))
    have HC := Lib.hid (put_clean a s.toList)
    have HS := Lib.hid (strip_put a s.toList)
    have hle := put_le a s.toList
    have hle2 := put_le a t.toList
    rw [← size_toList] at hle hle2
    have hz := size_bOf (put a s.toList)
    have hz2 := size_bOf (put a t.toList)
    have Hsz : Hid (((put a s.toList).length : Int) = ((bOf (put a s.toList)).size : Int)) := by show _ = _; rw [hz]
    rw [← hz] at hle
    rw [← hz2] at hle2
    have hT1 : (bOf (put a s.toList)).size ≤ 16384 := by omega
    have hU1 : (bOf (put a t.toList)).size ≤ 16384 := by omega
    have hT2 : decide ((bOf (put a s.toList)).size < s.size) = false := decide_eq_false (by omega)
    have hT3 : decide (2 * (s.size : Int) < ((bOf (put a s.toList)).size : Int)) = false := decide_eq_false (by omega)
    clear hz hz2 hle hle2
    go_enter Try.func5, Try.ntmps5
    go_wp2_with fail
    refine (put_any s a _ Ha.out Hs.out).mono ?_
    rintro e w1 ⟨rfl, hb1⟩
    go_wp2_with fail
    refine (size_any s a _ Ha.out Hs.out).mono ?_
    rw [Hsz.out]
    rintro e w2 ⟨rfl, hb2⟩
    go_wp2_with fail
    refine (put_any (s ++ t) a _ Ha.out Hst.out).mono ?_
    rw [HP.out]
    rintro e w3 ⟨rfl, hb3⟩
    go_wp2_with fail
    refine (put_any t a _ Ha.out Ht.out).mono ?_
    generalize bOf (put a s.toList) = T at *
    generalize bOf (put a t.toList) = U at *
    rintro e w4 ⟨rfl, hb4⟩
    have hx1 : ((T ++ U).toList != (T ++ U).toList) = false := by simp
    have B2 := hb1.trans (hb2.mono hb1.size)
    have B3 := B2.trans (hb3.mono B2.size)
    have B4 := Lib.hid (B3.trans (hb4.mono B3.size))
    clear hb1 hb2 hb3 hb4 B2 B3
    go_wp2
    go_loop [8] (fun i => ∃ k : Nat, k ≤ T.size ∧ i = .int .i64 k ∧ Hid (T.size ≤ 16384)) (fun i => T.size - (intOf i).toNat)
    case atStart => exact ⟨0, Nat.zero_le _, rfl, hT1⟩
    case round =>
      obtain ⟨k, hk, rfl, _⟩ := hrel
      by_cases hlt : k < T.size
      · obtain ⟨x, hsx⟩ : ∃ x, T[k] = x := ⟨_, rfl⟩
        have hm := HC.out x (by rw [← HT.out, ← hsx]; exact at_mem T k hlt)
        have hx := no_flag x hm.1
        have Hm := Lib.hid hm.2
        clear hm
        go_wp2_with fail
        refine (mapped_any a x _ Ha.out).mono ?_
        rw [Hm.out]
        rintro e w5 ⟨rfl, rfl⟩
        go_wp2
        go_round
        case rel => exact ⟨k + 1, by omega, by go_num, hT1⟩
        case measure => simp [intOf]; omega
      · have hx2 := beq_self T
        have HTT : Hid (bOf (strip a T.toList) = T) := by show _ = _; rw [HT.out, HS.out, ← HT.out, bOf_toList]
        go_wp2_with fail
        refine (strip_any T a _ Ha.out (by omega)).mono ?_
        rw [HTT.out]
        rintro e w5 ⟨rfl, hb5⟩
        go_wp2_with fail
        refine (alive_any _).mono ?_
        rintro e w6 ⟨rfl, hb6⟩
        go_wp2
        go_ret
        have B5 := B4.out.trans (hb5.mono B4.out.size)
        exact ⟨rfl, B5.trans (hb6.mono B5.size)⟩

set_option maxRecDepth 100000 in
theorem lifted (os : Os) (started : os.Started) (H : Type) (enc : TypeId × Value → H) :
    ReturnsInHanded {} Try.checked os 5 .any (Rows.escapeCleanSpec.pre6 enc Try.prog Try.f5 Rows.escapeCleanRow.domain false) (Rows.escapeCleanSpec.post enc Try.prog Try.f5 false true false false) := by
  refine returnsInHanded_of_change_sized (C := Try.checked) own started (by kernel_rfl) Try.func5
    (ChangeSpec.witness6 (enc := enc) (C := Try.checked) false ⟨#[], #[.string ByteArray.empty, .string ByteArray.empty, .int .u32 0], []⟩ 8 (by kernel_rfl) (by kernel_rfl) (by kernel_rfl) (by kernel_rfl)) ?_
  intro W base args ds gs before hval0 hW hcnd hsz0 _
  have hsz : (DataW.weightsEach Try.prog (Try.f5.params.toList ++ Rows.escapeCleanSpec.plain.varTypes Try.prog) (ds ++ gs)).all (· ≤ reachBytes) = true := hsz0
  have hval : ∀ (j : Nat) t v, Try.f5.params[j]? = some t → args[j]? = some v → Value.okWide Try.prog W .any base t v := hval0
  have hW' := hW
  obtain ⟨p, q, hA0, hV, rfl, hfz, hnd⟩ := hW
  have hlt := hW'.lt
  have hA : DataW.TrodAll enc Try.prog W 0 (fun _ => true) true Try.f5.params.toList args.toList ds p := hA0
  rw [Try.params5] at hA hval hsz
  obtain ⟨v0, vs0, d0, ds0, p0, q0, hargs, rfl, rfl, h0, r0⟩ := trodAll_cons hA
  obtain ⟨v1, vs1, d1, ds1, p1, q1, rfl, rfl, rfl, h1, r1⟩ := trodAll_cons r0
  obtain ⟨v2, vs2, d2, ds2, p2, q2, rfl, rfl, rfl, h2, r2⟩ := trodAll_cons r1
  obtain ⟨rfl, rfl, rfl⟩ := trodAll_nil r2
  obtain rfl : args = #[v0, v1, v2] := by cases args; simp_all
  obtain ⟨rfl, rfl⟩ := trodVars_none hV
  obtain ⟨a0, rfl, rfl, rfl, w0⟩ := open_string Try.underlying9 (hval 0 9 v0 rfl rfl) h0
  obtain ⟨a1, rfl, rfl, rfl, w1⟩ := open_string Try.underlying9 (hval 1 9 v1 rfl rfl) h1
  obtain ⟨z2, rfl, rfl, rfl, w2⟩ := open_int Try.underlying22 (hval 2 22 v2 rfl rfl) h2
  obtain ⟨a2, rfl⟩ : ∃ n : Nat, z2 = n := ⟨z2.toNat, by have := bounds_u32 w2; omega⟩
  have b2 := bounds_u32 w2
  have z0 : a0.size ≤ 140737488351232 := by have h := sized_string hsz (j := 0) (t := 9) rfl rfl; rw [Array.length_toList] at h; exact h
  have z1 : a1.size ≤ 140737488351232 := by have h := sized_string hsz (j := 1) (t := 9) rfl rfl; rw [Array.length_toList] at h; exact h
  clear hA0 hval0 hsz0
  exact (walk a0 a1 a2 z0 z1 (by omega) W).mono fun e W' ⟨he, hb⟩ => ⟨_, he, law_post (t := 4) laidOut (by kernel_rfl) rfl rfl Try.underlying4 ⟨rfl, rfl, rfl⟩ hW' hb⟩

theorem over : Rows.escapeCleanRow.holds Try.pinned (OpenSpec.ofChange Rows.escapeCleanSpec) :=
  OpenClaim.holds_of_wide 5 Try.f5 rfl rfl rfl rfl rfl rfl rfl ⟨rfl, rfl, rfl, rfl, rfl⟩ rfl rfl rfl rfl rfl (by kernel_rfl) Try.func5 (by kernel_rfl)
    (of_decide_eq_true (by kernel_rfl)) (by unfold Func.isWrapper; first | (rw [if_pos (by decide +kernel)]; kernel_rfl) | (rw [if_neg (by decide +kernel)]; exact ⟨rfl, rfl⟩))
    (fun os started H enc _ => lifted os started H enc)

theorem proved : Rows.EscapeCleanSaid :=
  over
#print axioms proved
end Go.Proofs.Ytbihjpdenfjojaa.EscapeClean
