/- PROVED: 'halyardlaw06.FieldShort' returns true for every number and every text, and leaves them as they were. No condition. -/
import Derived.Test.YtppkmfkjghnkeaaFldF
import Derived.Test.YtppkmfkjghnkeaaComp
import Derived.Test.YtppkmfkjghnkeaaLaw
import Derived.Test.YtppkmfkjghnkeaaRows
import Derived.SizedLaws
namespace Go.Proofs.Ytppkmfkjghnkeaa.FieldShort
open Go.ChangeShapes Go.WideShapes Go.ChangeAt Go.RowKit Go.Proofs.Ytppkmfkjghnkeaa.Oct Go.Proofs.Ytppkmfkjghnkeaa.Row Go.Proofs.Ytppkmfkjghnkeaa.Fld Go.Proofs.Ytppkmfkjghnkeaa.Law
open Go.ChangeMaps (open_string shut_string)

theorem short_of (p : Nat) (l : List UInt8) (a c : Bool) (h : Nat) (hh : (heads p a c).length = h) : ((bOf (heads p a c ++ l)).size : Int) = ((bOf l).size : Int) + (h : Int) ∧ (bOf (heads p a c ++ l)).extract h (bOf (heads p a c ++ l)).size = bOf l := by
  rw [extract_rest, toList_bOf, ← hh, List.drop_left, size_bOf, size_bOf, List.length_append]
  exact ⟨by omega, rfl⟩
set_option maxHeartbeats 8000000 in
set_option maxRecDepth 100000 in
theorem walk (p : Nat) (s : ByteArray) (hp : p < 65536) (hs : s.size ≤ 140737488351232) (w : World) :
    Calls Try.prog 5 #[.int .u16 p, .string s] w fun e w' => e = .returned (.bool true) ∧ Below w.heap.size w w' := by
  obtain ⟨l, rfl⟩ : ∃ l, s = bOf l := ⟨s.toList, (bOf_toList s).symm⟩
  have Hp := Lib.hid hp; clear hp
  by_cases h : 16384 < ((bOf l).size : Int)
  · have HH0 := Lib.hid (Below.refl w.heap.size w)
    go_enter Try.func5, Try.ntmps5
    go_wp2_with fail
    refine (alive_any _).mono ?_
    rintro e w1 ⟨rfl, hb1⟩
    have HH1 := Lib.hid (HH0.out.trans (hb1.mono HH0.out.size))
    clear hb1
    go_wp2
    go_ret
    exact ⟨rfl, HH1.out⟩
  · cases hm : may p
    · have M1 := Lib.hid (fun w => may_is p false w Hp.out hm)
      clear hm
      have HH0 := Lib.hid (Below.refl w.heap.size w)
      go_enter Try.func5, Try.ntmps5
      go_wp2_with fail
      refine (M1.out _).mono ?_
      rintro e w1 ⟨rfl, hb1⟩
      have HH1 := Lib.hid (HH0.out.trans (hb1.mono HH0.out.size))
      clear hb1
      go_wp2_with fail
      refine (alive_any _).mono ?_
      rintro e w2 ⟨rfl, hb2⟩
      have HH2 := Lib.hid (HH1.out.trans (hb2.mono HH1.out.size))
      clear hb2
      go_wp2
      go_ret
      exact ⟨rfl, HH2.out⟩
    · have Hm := Lib.hid hm
      have M1 := Lib.hid (fun w => may_is p true w Hp.out hm)
      have hz := size_bOf l
      have Hl := Lib.hid (show l.length ≤ 1048576 by omega)
      have hsz : (bOf l).size ≤ 16384 := by omega
      have hx1 : ((bOf l).toList != (bOf l).toList) = false := by simp
      clear hm hz
      have hLI : (p != 49185) = false ∧ (p / 256 == 0) = false ∧ ((p : Int) != 49185) = false ∧ ¬ ((p : Int) < 256) ∨ (p != 49185) = true ∧ (p / 256 == 0) = false ∧ ((p : Int) != 49185) = true ∧ ¬ ((p : Int) < 256) ∨ (p != 49185) = true ∧ (p / 256 == 0) = true ∧ ((p : Int) != 49185) = true ∧ ((p : Int) < 256) := by
        simp only [bne_iff_ne, ne_eq, bne_eq_false_iff_eq, beq_iff_eq, beq_eq_false_iff_ne]
        omega
      rcases hLI with ⟨hL, hI, hl, hi⟩ | ⟨hL, hI, hl, hi⟩ | ⟨hL, hI, hl, hi⟩
      · have HL := Lib.hid hL
        have HI := Lib.hid hI
        clear hL hI
        go_enter Try.func5, Try.ntmps5
        go_wp2_with fail
        refine (M1.out _).mono ?_
        rintro e w1 ⟨rfl, hb1⟩
        have HB1 := Lib.hid hb1
        clear hb1
        go_wp2
        go_loopw [5] (fun i wr => ∃ z : Int, (z = 0 ∨ z = 1 ∨ z = 2 ∨ z = 3 ∨ z = 4) ∧ i = .int .i64 z ∧ Below w.heap.size w wr) (fun i _ => 4 - (intOf i).toNat)
        case atStart => exact ⟨0, by omega, rfl, HB1.out⟩
        case round =>
          obtain ⟨z, hz, rfl, hb⟩ := hrel
          rcases hz with rfl | rfl | rfl | rfl | rfl
          · have A := short_of p l false false 4 (by rw [heads_length, HL.out, HI.out]; rfl)
            have P := Lib.hid (fun w => put_yes p l false false w Hp.out Hm.out Hl.out)
            have hA1 := A.1
            have hx2 : (((bOf (heads p false false ++ l)).extract 4 (bOf (heads p false false ++ l)).size).toList == (bOf l).toList) = true := by rw [A.2]; simp
            clear A
            generalize bOf (heads p false false ++ l) = X at *
            have hB := box_laid wr false false
            go_wp2_with fail
            refine (P.out _).mono ?_
            rintro e w2 ⟨rfl, hb2⟩
            have hB2 := hB.callee hb2
            have k0 := hB2.c0
            have k1 := hB2.c1
            have HB2 := Lib.hid ((hb.alloc hb.size (.cells #[.bool false, .bool false] 24)).trans (hb2.mono (by rw [World.size_alloc]; have := hb.size; omega)))
            clear hB hB2 hb2
            go_wp2_with fail
            exact ⟨⟨1, by omega, rfl, HB2.out⟩, by simp [intOf]⟩
          · have A := short_of p l true false 4 (by rw [heads_length, HL.out, HI.out]; rfl)
            have P := Lib.hid (fun w => put_yes p l true false w Hp.out Hm.out Hl.out)
            have hA1 := A.1
            have hx2 : (((bOf (heads p true false ++ l)).extract 4 (bOf (heads p true false ++ l)).size).toList == (bOf l).toList) = true := by rw [A.2]; simp
            clear A
            generalize bOf (heads p true false ++ l) = X at *
            have hB := box_laid wr true false
            go_wp2_with fail
            refine (P.out _).mono ?_
            rintro e w2 ⟨rfl, hb2⟩
            have hB2 := hB.callee hb2
            have k0 := hB2.c0
            have k1 := hB2.c1
            have HB2 := Lib.hid ((hb.alloc hb.size (.cells #[.bool true, .bool false] 24)).trans (hb2.mono (by rw [World.size_alloc]; have := hb.size; omega)))
            clear hB hB2 hb2
            go_wp2_with fail
            exact ⟨⟨2, by omega, rfl, HB2.out⟩, by simp [intOf]⟩
          · have A := short_of p l false true 4 (by rw [heads_length, HL.out, HI.out]; rfl)
            have P := Lib.hid (fun w => put_yes p l false true w Hp.out Hm.out Hl.out)
            have hA1 := A.1
            have hx2 : (((bOf (heads p false true ++ l)).extract 4 (bOf (heads p false true ++ l)).size).toList == (bOf l).toList) = true := by rw [A.2]; simp
            clear A
            generalize bOf (heads p false true ++ l) = X at *
            have hB := box_laid wr false true
            go_wp2_with fail
            refine (P.out _).mono ?_
            rintro e w2 ⟨rfl, hb2⟩
            have hB2 := hB.callee hb2
            have k0 := hB2.c0
            have k1 := hB2.c1
            have HB2 := Lib.hid ((hb.alloc hb.size (.cells #[.bool false, .bool true] 24)).trans (hb2.mono (by rw [World.size_alloc]; have := hb.size; omega)))
            clear hB hB2 hb2
            go_wp2_with fail
            exact ⟨⟨3, by omega, rfl, HB2.out⟩, by simp [intOf]⟩
          · have A := short_of p l true true 4 (by rw [heads_length, HL.out, HI.out]; rfl)
            have P := Lib.hid (fun w => put_yes p l true true w Hp.out Hm.out Hl.out)
            have hA1 := A.1
            have hx2 : (((bOf (heads p true true ++ l)).extract 4 (bOf (heads p true true ++ l)).size).toList == (bOf l).toList) = true := by rw [A.2]; simp
            clear A
            generalize bOf (heads p true true ++ l) = X at *
            have hB := box_laid wr true true
            go_wp2_with fail
            refine (P.out _).mono ?_
            rintro e w2 ⟨rfl, hb2⟩
            have hB2 := hB.callee hb2
            have k0 := hB2.c0
            have k1 := hB2.c1
            have HB2 := Lib.hid ((hb.alloc hb.size (.cells #[.bool true, .bool true] 24)).trans (hb2.mono (by rw [World.size_alloc]; have := hb.size; omega)))
            clear hB hB2 hb2
            go_wp2_with fail
            exact ⟨⟨4, by omega, rfl, HB2.out⟩, by simp [intOf]⟩
          · go_wp2_with fail
            refine (alive_any _).mono ?_
            rintro e w2 ⟨rfl, hb2⟩
            go_wp2
            go_ret
            exact ⟨rfl, hb.trans (hb2.mono hb.size)⟩
      · have HL := Lib.hid hL
        have HI := Lib.hid hI
        clear hL hI
        go_enter Try.func5, Try.ntmps5
        go_wp2_with fail
        refine (M1.out _).mono ?_
        rintro e w1 ⟨rfl, hb1⟩
        have HB1 := Lib.hid hb1
        clear hb1
        go_wp2
        go_loopw [5] (fun i wr => ∃ z : Int, (z = 0 ∨ z = 1 ∨ z = 2 ∨ z = 3 ∨ z = 4) ∧ i = .int .i64 z ∧ Below w.heap.size w wr) (fun i _ => 4 - (intOf i).toNat)
        case atStart => exact ⟨0, by omega, rfl, HB1.out⟩
        case round =>
          obtain ⟨z, hz, rfl, hb⟩ := hrel
          rcases hz with rfl | rfl | rfl | rfl | rfl
          · have A := short_of p l false false 4 (by rw [heads_length, HL.out, HI.out]; rfl)
            have P := Lib.hid (fun w => put_yes p l false false w Hp.out Hm.out Hl.out)
            have hA1 := A.1
            have hx2 : (((bOf (heads p false false ++ l)).extract 4 (bOf (heads p false false ++ l)).size).toList == (bOf l).toList) = true := by rw [A.2]; simp
            clear A
            generalize bOf (heads p false false ++ l) = X at *
            have hB := box_laid wr false false
            go_wp2_with fail
            refine (P.out _).mono ?_
            rintro e w2 ⟨rfl, hb2⟩
            have hB2 := hB.callee hb2
            have k0 := hB2.c0
            have k1 := hB2.c1
            have HB2 := Lib.hid ((hb.alloc hb.size (.cells #[.bool false, .bool false] 24)).trans (hb2.mono (by rw [World.size_alloc]; have := hb.size; omega)))
            clear hB hB2 hb2
            go_wp2_with fail
            exact ⟨⟨1, by omega, rfl, HB2.out⟩, by simp [intOf]⟩
          · have A := short_of p l true false 2 (by rw [heads_length, HL.out, HI.out]; rfl)
            have P := Lib.hid (fun w => put_yes p l true false w Hp.out Hm.out Hl.out)
            have hA1 := A.1
            have hx2 : (((bOf (heads p true false ++ l)).extract 2 (bOf (heads p true false ++ l)).size).toList == (bOf l).toList) = true := by rw [A.2]; simp
            clear A
            generalize bOf (heads p true false ++ l) = X at *
            have hB := box_laid wr true false
            go_wp2_with fail
            refine (P.out _).mono ?_
            rintro e w2 ⟨rfl, hb2⟩
            have hB2 := hB.callee hb2
            have k0 := hB2.c0
            have k1 := hB2.c1
            have HB2 := Lib.hid ((hb.alloc hb.size (.cells #[.bool true, .bool false] 24)).trans (hb2.mono (by rw [World.size_alloc]; have := hb.size; omega)))
            clear hB hB2 hb2
            go_wp2_with fail
            exact ⟨⟨2, by omega, rfl, HB2.out⟩, by simp [intOf]⟩
          · have A := short_of p l false true 4 (by rw [heads_length, HL.out, HI.out]; rfl)
            have P := Lib.hid (fun w => put_yes p l false true w Hp.out Hm.out Hl.out)
            have hA1 := A.1
            have hx2 : (((bOf (heads p false true ++ l)).extract 4 (bOf (heads p false true ++ l)).size).toList == (bOf l).toList) = true := by rw [A.2]; simp
            clear A
            generalize bOf (heads p false true ++ l) = X at *
            have hB := box_laid wr false true
            go_wp2_with fail
            refine (P.out _).mono ?_
            rintro e w2 ⟨rfl, hb2⟩
            have hB2 := hB.callee hb2
            have k0 := hB2.c0
            have k1 := hB2.c1
            have HB2 := Lib.hid ((hb.alloc hb.size (.cells #[.bool false, .bool true] 24)).trans (hb2.mono (by rw [World.size_alloc]; have := hb.size; omega)))
            clear hB hB2 hb2
            go_wp2_with fail
            exact ⟨⟨3, by omega, rfl, HB2.out⟩, by simp [intOf]⟩
          · have A := short_of p l true true 2 (by rw [heads_length, HL.out, HI.out]; rfl)
            have P := Lib.hid (fun w => put_yes p l true true w Hp.out Hm.out Hl.out)
            have hA1 := A.1
            have hx2 : (((bOf (heads p true true ++ l)).extract 2 (bOf (heads p true true ++ l)).size).toList == (bOf l).toList) = true := by rw [A.2]; simp
            clear A
            generalize bOf (heads p true true ++ l) = X at *
            have hB := box_laid wr true true
            go_wp2_with fail
            refine (P.out _).mono ?_
            rintro e w2 ⟨rfl, hb2⟩
            have hB2 := hB.callee hb2
            have k0 := hB2.c0
            have k1 := hB2.c1
            have HB2 := Lib.hid ((hb.alloc hb.size (.cells #[.bool true, .bool true] 24)).trans (hb2.mono (by rw [World.size_alloc]; have := hb.size; omega)))
            clear hB hB2 hb2
            go_wp2_with fail
            exact ⟨⟨4, by omega, rfl, HB2.out⟩, by simp [intOf]⟩
          · go_wp2_with fail
            refine (alive_any _).mono ?_
            rintro e w2 ⟨rfl, hb2⟩
            go_wp2
            go_ret
            exact ⟨rfl, hb.trans (hb2.mono hb.size)⟩
      · have HL := Lib.hid hL
        have HI := Lib.hid hI
        clear hL hI
        go_enter Try.func5, Try.ntmps5
        go_wp2_with fail
        refine (M1.out _).mono ?_
        rintro e w1 ⟨rfl, hb1⟩
        have HB1 := Lib.hid hb1
        clear hb1
        go_wp2
        go_loopw [5] (fun i wr => ∃ z : Int, (z = 0 ∨ z = 1 ∨ z = 2 ∨ z = 3 ∨ z = 4) ∧ i = .int .i64 z ∧ Below w.heap.size w wr) (fun i _ => 4 - (intOf i).toNat)
        case atStart => exact ⟨0, by omega, rfl, HB1.out⟩
        case round =>
          obtain ⟨z, hz, rfl, hb⟩ := hrel
          rcases hz with rfl | rfl | rfl | rfl | rfl
          · have A := short_of p l false false 4 (by rw [heads_length, HL.out, HI.out]; rfl)
            have P := Lib.hid (fun w => put_yes p l false false w Hp.out Hm.out Hl.out)
            have hA1 := A.1
            have hx2 : (((bOf (heads p false false ++ l)).extract 4 (bOf (heads p false false ++ l)).size).toList == (bOf l).toList) = true := by rw [A.2]; simp
            clear A
            generalize bOf (heads p false false ++ l) = X at *
            have hB := box_laid wr false false
            go_wp2_with fail
            refine (P.out _).mono ?_
            rintro e w2 ⟨rfl, hb2⟩
            have hB2 := hB.callee hb2
            have k0 := hB2.c0
            have k1 := hB2.c1
            have HB2 := Lib.hid ((hb.alloc hb.size (.cells #[.bool false, .bool false] 24)).trans (hb2.mono (by rw [World.size_alloc]; have := hb.size; omega)))
            clear hB hB2 hb2
            go_wp2_with fail
            exact ⟨⟨1, by omega, rfl, HB2.out⟩, by simp [intOf]⟩
          · have A := short_of p l true false 2 (by rw [heads_length, HL.out, HI.out]; rfl)
            have P := Lib.hid (fun w => put_yes p l true false w Hp.out Hm.out Hl.out)
            have hA1 := A.1
            have hx2 : (((bOf (heads p true false ++ l)).extract 2 (bOf (heads p true false ++ l)).size).toList == (bOf l).toList) = true := by rw [A.2]; simp
            clear A
            generalize bOf (heads p true false ++ l) = X at *
            have hB := box_laid wr true false
            go_wp2_with fail
            refine (P.out _).mono ?_
            rintro e w2 ⟨rfl, hb2⟩
            have hB2 := hB.callee hb2
            have k0 := hB2.c0
            have k1 := hB2.c1
            have HB2 := Lib.hid ((hb.alloc hb.size (.cells #[.bool true, .bool false] 24)).trans (hb2.mono (by rw [World.size_alloc]; have := hb.size; omega)))
            clear hB hB2 hb2
            go_wp2_with fail
            exact ⟨⟨2, by omega, rfl, HB2.out⟩, by simp [intOf]⟩
          · have A := short_of p l false true 3 (by rw [heads_length, HL.out, HI.out]; rfl)
            have P := Lib.hid (fun w => put_yes p l false true w Hp.out Hm.out Hl.out)
            have hA1 := A.1
            have hx2 : (((bOf (heads p false true ++ l)).extract 3 (bOf (heads p false true ++ l)).size).toList == (bOf l).toList) = true := by rw [A.2]; simp
            clear A
            generalize bOf (heads p false true ++ l) = X at *
            have hB := box_laid wr false true
            go_wp2_with fail
            refine (P.out _).mono ?_
            rintro e w2 ⟨rfl, hb2⟩
            have hB2 := hB.callee hb2
            have k0 := hB2.c0
            have k1 := hB2.c1
            have HB2 := Lib.hid ((hb.alloc hb.size (.cells #[.bool false, .bool true] 24)).trans (hb2.mono (by rw [World.size_alloc]; have := hb.size; omega)))
            clear hB hB2 hb2
            go_wp2_with fail
            exact ⟨⟨3, by omega, rfl, HB2.out⟩, by simp [intOf]⟩
          · have A := short_of p l true true 1 (by rw [heads_length, HL.out, HI.out]; rfl)
            have P := Lib.hid (fun w => put_yes p l true true w Hp.out Hm.out Hl.out)
            have hA1 := A.1
            have hx2 : (((bOf (heads p true true ++ l)).extract 1 (bOf (heads p true true ++ l)).size).toList == (bOf l).toList) = true := by rw [A.2]; simp
            clear A
            generalize bOf (heads p true true ++ l) = X at *
            have hB := box_laid wr true true
            go_wp2_with fail
            refine (P.out _).mono ?_
            rintro e w2 ⟨rfl, hb2⟩
            have hB2 := hB.callee hb2
            have k0 := hB2.c0
            have k1 := hB2.c1
            have HB2 := Lib.hid ((hb.alloc hb.size (.cells #[.bool true, .bool true] 24)).trans (hb2.mono (by rw [World.size_alloc]; have := hb.size; omega)))
            clear hB hB2 hb2
            go_wp2_with fail
            exact ⟨⟨4, by omega, rfl, HB2.out⟩, by simp [intOf]⟩
          · go_wp2_with fail
            refine (alive_any _).mono ?_
            rintro e w2 ⟨rfl, hb2⟩
            go_wp2
            go_ret
            exact ⟨rfl, hb.trans (hb2.mono hb.size)⟩

set_option maxRecDepth 100000 in
theorem lifted (os : Os) (started : os.Started) (H : Type) (enc : TypeId × Value → H) :
    ReturnsInHanded {} Try.checked os 5 .any (Rows.fieldShortSpec.pre6 enc Try.prog Try.f5 Rows.fieldShortRow.domain false) (Rows.fieldShortSpec.post enc Try.prog Try.f5 false true false false) := by
  refine returnsInHanded_of_change_sized (C := Try.checked) own started (by kernel_rfl) Try.func5
    (ChangeSpec.witness6 (enc := enc) (C := Try.checked) false ⟨#[], #[.int .u16 0, .string ByteArray.empty], []⟩ 8 (by kernel_rfl) (by kernel_rfl) (by kernel_rfl) (by kernel_rfl)) ?_
  intro W base args ds gs before hval0 hW hcnd hsz0 _
  have hsz : (DataW.weightsEach Try.prog (Try.f5.params.toList ++ Rows.fieldShortSpec.plain.varTypes Try.prog) (ds ++ gs)).all (· ≤ reachBytes) = true := hsz0
  have hval : ∀ (j : Nat) t v, Try.f5.params[j]? = some t → args[j]? = some v → Value.okWide Try.prog W .any base t v := hval0
  have hW' := hW
  obtain ⟨p, q, hA0, hV, rfl, hfz, hnd⟩ := hW
  have hlt := hW'.lt
  have hA : DataW.TrodAll enc Try.prog W 0 (fun _ => true) true Try.f5.params.toList args.toList ds p := hA0
  rw [Try.params5] at hA hval hsz
  obtain ⟨v0, vs0, d0, ds0, p0, q0, hargs, rfl, rfl, h0, r0⟩ := trodAll_cons hA
  obtain ⟨v1, vs1, d1, ds1, p1, q1, rfl, rfl, rfl, h1, r1⟩ := trodAll_cons r0
  obtain ⟨rfl, rfl, rfl⟩ := trodAll_nil r1
  obtain rfl : args = #[v0, v1] := by cases args; simp_all
  obtain ⟨rfl, rfl⟩ := trodVars_none hV
  obtain ⟨z0, rfl, rfl, rfl, w0⟩ := open_int Try.underlying22 (hval 0 22 v0 rfl rfl) h0
  obtain ⟨a0, rfl⟩ : ∃ n : Nat, z0 = n := ⟨z0.toNat, by have := bounds_u16 w0; omega⟩
  have b0 := bounds_u16 w0
  obtain ⟨a1, rfl, rfl, rfl, w1⟩ := open_string Try.underlying9 (hval 1 9 v1 rfl rfl) h1
  have z1 : a1.size ≤ 140737488351232 := by have h := sized_string hsz (j := 1) (t := 9) rfl rfl; rw [Array.length_toList] at h; exact h
  clear hA0 hval0 hsz0
  exact (walk a0 a1 (by omega) z1 W).mono fun e W' ⟨he, hb⟩ => ⟨_, he, law_post (t := 4) laidOut (by kernel_rfl) rfl rfl Try.underlying4 ⟨rfl, rfl, rfl⟩ hW' hb⟩

theorem over : Rows.fieldShortRow.holds Try.pinned (OpenSpec.ofChange Rows.fieldShortSpec) :=
  OpenClaim.holds_of_wide 5 Try.f5 rfl rfl rfl rfl rfl rfl rfl ⟨rfl, rfl, rfl, rfl, rfl⟩ rfl rfl rfl rfl rfl (by kernel_rfl) Try.func5 (by kernel_rfl)
    (of_decide_eq_true (by kernel_rfl)) (by unfold Func.isWrapper; first | (rw [if_pos (by decide +kernel)]; kernel_rfl) | (rw [if_neg (by decide +kernel)]; exact ⟨rfl, rfl⟩))
    (fun os started H enc _ => lifted os started H enc)

theorem proved : Rows.FieldShortSaid :=
  over
#print axioms proved
end Go.Proofs.Ytppkmfkjghnkeaa.FieldShort
