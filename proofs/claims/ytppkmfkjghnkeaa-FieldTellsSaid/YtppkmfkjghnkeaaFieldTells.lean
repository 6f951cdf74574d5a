/- PROVED: 'halyardlaw06.FieldTells' returns true for every number, every two texts and every compression, and leaves them as they were. No condition. -/
import Derived.Test.YtppkmfkjghnkeaaFldF
import Derived.Test.YtppkmfkjghnkeaaComp
import Derived.Test.YtppkmfkjghnkeaaLaw
import Derived.Test.YtppkmfkjghnkeaaRows
import Derived.SizedLaws
namespace Go.Proofs.Ytppkmfkjghnkeaa.FieldTells
open Go.ChangeShapes Go.WideShapes Go.ChangeAt Go.RowKit Go.Proofs.Ytppkmfkjghnkeaa.Oct Go.Proofs.Ytppkmfkjghnkeaa.Row Go.Proofs.Ytppkmfkjghnkeaa.Fld Go.Proofs.Ytppkmfkjghnkeaa.Law
open Go.ChangeMaps (open_string shut_string)

set_option maxHeartbeats 4000000 in
set_option maxRecDepth 100000 in
theorem walk (p : Nat) (s : ByteArray) (a c : Bool) (t : ByteArray) (hp : p < 65536) (hs : s.size ≤ 140737488351232) (ht : t.size ≤ 140737488351232) (w : World) :
    Calls Try.prog 3 #[.int .u16 p, .string s, .agg #[.bool a, .bool c], .string t] w fun e w' => e = .returned (.bool true) ∧ Below w.heap.size w w' := by
  have Hp := Lib.hid hp; clear hp
  have HBx := Lib.hid (box_laid w a c)
  have HH0 := Lib.hid ((Below.refl w.heap.size w).alloc (Nat.le_refl _) (.cells #[.bool a, .bool c] 24))
  by_cases h : 16384 < (s.size : Int) + (t.size : Int)
  · go_enter Try.func3, Try.ntmps3
    go_wp2_with fail
    refine (alive_any _).mono ?_
    rintro e w1 ⟨rfl, hb1⟩
    have HH1 := Lib.hid (HH0.out.trans (hb1.mono HH0.out.size))
    clear hb1
    go_wp2
    go_ret
    exact ⟨rfl, HH1.out⟩
  · have Hs := Lib.hid (show s.size ≤ 1048576 by omega)
    have Ht := Lib.hid (show t.size ≤ 1048576 by omega)
    have hx1 := beq_self (putA p s a c)
    have hx2 := beq_self (bOf (gR (skip t.toList)))
    have hx3 : (putE p == putE p) = true := by simp
    have hx4 : (may p == may p) = true := by simp
    have hx5 : (((gP (skip t.toList) : Nat) : Int) == ((gP (skip t.toList) : Nat) : Int)) = true := by simp
    have hx6 : (((gE (skip t.toList) : Nat) : Int) == ((gE (skip t.toList) : Nat) : Int)) = true := by simp
    go_enter Try.func3, Try.ntmps3
    go_wp2_with fail
    refine (put_any p s a c _ Hp.out Hs.out).mono ?_
    rintro e w1 ⟨rfl, hb1⟩
    have hBx1 := HBx.out.callee hb1
    have k10 := hBx1.c0
    have k11 := hBx1.c1
    have HBx1 := Lib.hid hBx1
    clear hBx1
    have HH1 := Lib.hid (HH0.out.trans (hb1.mono HH0.out.size))
    clear hb1
    go_wp2_with fail
    refine (rput_any p s a c _ Hp.out Hs.out).mono ?_
    rintro e w2 ⟨rfl, hb2⟩
    have HH2 := Lib.hid (HH1.out.trans (hb2.mono HH1.out.size))
    clear hb2
    go_wp2_with fail
    refine (get_any t _ Ht.out).mono ?_
    rintro e w3 ⟨rfl, hb3⟩
    have HH3 := Lib.hid (HH2.out.trans (hb3.mono HH2.out.size))
    clear hb3
    go_wp2_with fail
    refine (calls_below_k (rget_any t _)).mono ?_
    rintro e w4 ⟨rfl, hb4⟩
    have HH4 := Lib.hid (HH3.out.trans (hb4.mono HH3.out.size))
    clear hb4
    go_wp2_with fail
    refine (calls_below_eq (may_any p _ Hp.out)).mono ?_
    rintro e w5 ⟨rfl, hb5⟩
    have HH5 := Lib.hid (HH4.out.trans (hb5.mono HH4.out.size))
    clear hb5
    go_wp2_with fail
    refine (calls_below_eq (rmay_any p _ Hp.out)).mono ?_
    rintro e w6 ⟨rfl, hb6⟩
    have HH6 := Lib.hid (HH5.out.trans (hb6.mono HH5.out.size))
    clear hb6
    go_wp2_with fail
    refine (alive_any _).mono ?_
    rintro e w7 ⟨rfl, hb7⟩
    have HH7 := Lib.hid (HH6.out.trans (hb7.mono HH6.out.size))
    clear hb7
    go_wp2
    go_ret
    exact ⟨rfl, HH7.out⟩

set_option maxRecDepth 100000 in
theorem lifted (os : Os) (started : os.Started) (H : Type) (enc : TypeId × Value → H) :
    ReturnsInHanded {} Try.checked os 3 .any (Rows.fieldTellsSpec.pre6 enc Try.prog Try.f3 Rows.fieldTellsRow.domain false) (Rows.fieldTellsSpec.post enc Try.prog Try.f3 false true false false) := by
  refine returnsInHanded_of_change_sized (C := Try.checked) own started (by kernel_rfl) Try.func3
    (ChangeSpec.witness6 (enc := enc) (C := Try.checked) false ⟨#[], #[.int .u16 0, .string ByteArray.empty, .agg #[.bool false, .bool false], .string ByteArray.empty], []⟩ 8 (by kernel_rfl) (by kernel_rfl) (by kernel_rfl) (by kernel_rfl)) ?_
  intro W base args ds gs before hval0 hW hcnd hsz0 _
  have hsz : (DataW.weightsEach Try.prog (Try.f3.params.toList ++ Rows.fieldTellsSpec.plain.varTypes Try.prog) (ds ++ gs)).all (· ≤ reachBytes) = true := hsz0
  have hval : ∀ (j : Nat) t v, Try.f3.params[j]? = some t → args[j]? = some v → Value.okWide Try.prog W .any base t v := hval0
  have hW' := hW
  obtain ⟨p, q, hA0, hV, rfl, hfz, hnd⟩ := hW
  have hlt := hW'.lt
  have hA : DataW.TrodAll enc Try.prog W 0 (fun _ => true) true Try.f3.params.toList args.toList ds p := hA0
  rw [Try.params3] at hA hval hsz
  obtain ⟨v0, vs0, d0, ds0, p0, q0, hargs, rfl, rfl, h0, r0⟩ := trodAll_cons hA
  obtain ⟨v1, vs1, d1, ds1, p1, q1, rfl, rfl, rfl, h1, r1⟩ := trodAll_cons r0
  obtain ⟨v2, vs2, d2, ds2, p2, q2, rfl, rfl, rfl, h2, r2⟩ := trodAll_cons r1
  obtain ⟨v3, vs3, d3, ds3, p3, q3, rfl, rfl, rfl, h3, r3⟩ := trodAll_cons r2
  obtain ⟨rfl, rfl, rfl⟩ := trodAll_nil r3
  obtain rfl : args = #[v0, v1, v2, v3] := by cases args; simp_all
  obtain ⟨rfl, rfl⟩ := trodVars_none hV
  obtain ⟨z0, rfl, rfl, rfl, w0⟩ := open_int Try.underlying22 (hval 0 22 v0 rfl rfl) h0
  obtain ⟨a0, rfl⟩ : ∃ n : Nat, z0 = n := ⟨z0.toNat, by have := bounds_u16 w0; omega⟩
  have b0 := bounds_u16 w0
  obtain ⟨a1, rfl, rfl, rfl, w1⟩ := open_string Try.underlying9 (hval 1 9 v1 rfl rfl) h1
  obtain ⟨a2, c2, rfl⟩ := comp_of Try.underlying24 (by kernel_rfl) (by kernel_rfl) Try.underlying4 Try.underlying4 (hval 2 24 v2 rfl rfl) h2
  obtain ⟨a3, rfl, rfl, rfl, w3⟩ := open_string Try.underlying9 (hval 3 9 v3 rfl rfl) h3
  have z1 : a1.size ≤ 140737488351232 := by have h := sized_string hsz (j := 1) (t := 9) rfl rfl; rw [Array.length_toList] at h; exact h
  have z3 : a3.size ≤ 140737488351232 := by have h := sized_string hsz (j := 3) (t := 9) rfl rfl; rw [Array.length_toList] at h; exact h
  clear hA0 hval0 hsz0
  exact (walk a0 a1 a2 c2 a3 (by omega) z1 z3 W).mono fun e W' ⟨he, hb⟩ => ⟨_, he, law_post (t := 4) laidOut (by kernel_rfl) rfl rfl Try.underlying4 ⟨rfl, rfl, rfl⟩ hW' hb⟩

theorem over : Rows.fieldTellsRow.holds Try.pinned (OpenSpec.ofChange Rows.fieldTellsSpec) :=
  OpenClaim.holds_of_wide 3 Try.f3 rfl rfl rfl rfl rfl rfl rfl ⟨rfl, rfl, rfl, rfl, rfl⟩ rfl rfl rfl rfl rfl (by kernel_rfl) Try.func3 (by kernel_rfl)
    (of_decide_eq_true (by kernel_rfl)) (by unfold Func.isWrapper; first | (rw [if_pos (by decide +kernel)]; kernel_rfl) | (rw [if_neg (by decide +kernel)]; exact ⟨rfl, rfl⟩))
    (fun os started H enc _ => lifted os started H enc)

theorem proved : Rows.FieldTellsSaid :=
  over
#print axioms proved
end Go.Proofs.Ytppkmfkjghnkeaa.FieldTells
