/- PROVED: 'halyardlaw06.FieldEnds' returns true for every number, every compression, every two texts and every place, and leaves them as they were. No condition. -/
import Derived.Test.YtppkmfkjghnkeaaFldF
import Derived.Test.YtppkmfkjghnkeaaComp
import Derived.Test.YtppkmfkjghnkeaaLaw
import Derived.Test.YtppkmfkjghnkeaaRows
import Derived.SizedLaws
namespace Go.Proofs.Ytppkmfkjghnkeaa.FieldEnds
open Go.ChangeShapes Go.WideShapes Go.ChangeAt Go.RowKit Go.Proofs.Ytppkmfkjghnkeaa.Oct Go.Proofs.Ytppkmfkjghnkeaa.Row Go.Proofs.Ytppkmfkjghnkeaa.Fld Go.Proofs.Ytppkmfkjghnkeaa.Law
open Go.ChangeMaps (open_string shut_string)

set_option maxHeartbeats 4000000 in
set_option maxRecDepth 100000 in
theorem walk (p : Nat) (a c : Bool) (s t : ByteArray) (k : Nat) (hp : p < 65536) (hs : s.size ≤ 140737488351232) (ht : t.size ≤ 140737488351232) (hk : k < 256) (w : World) :
    Calls Try.prog 6 #[.int .u16 p, .agg #[.bool a, .bool c], .string s, .string t, .int .u8 k] w fun e w' => e = .returned (.bool true) ∧ Below w.heap.size w w' := by
  have Hp := Lib.hid hp; clear hp
  have HBx := Lib.hid (box_laid w a c)
  have HH0 := Lib.hid ((Below.refl w.heap.size w).alloc (Nat.le_refl _) (.cells #[.bool a, .bool c] 24))
  by_cases h : 16384 < (s.size : Int) + (t.size : Int)
  · go_enter Try.func6, Try.ntmps6
    go_wp2_with fail
    refine (alive_any _).mono ?_
    rintro e w1 ⟨rfl, hb1⟩
    have HH1 := Lib.hid (HH0.out.trans (hb1.mono HH0.out.size))
    clear hb1
    go_wp2
    go_ret
    exact ⟨rfl, HH1.out⟩
  · cases hm : may p
    · have P1 := Lib.hid (fun w => put_no p (bOf []) a c w Hp.out hm)
      clear hm
      go_enter Try.func6, Try.ntmps6
      go_wp2_with fail
      refine (P1.out _).mono ?_
      rintro e w1 ⟨rfl, hb1⟩
      have HH1 := Lib.hid (HH0.out.trans (hb1.mono HH0.out.size))
      clear hb1
      go_wp2_with fail
      refine (alive_any _).mono ?_
      rintro e w2 ⟨rfl, hb2⟩
      have HH2 := Lib.hid (HH1.out.trans (hb2.mono HH1.out.size))
      clear hb2
      go_wp2
      go_ret
      exact ⟨rfl, HH2.out⟩
    · have P1 := Lib.hid (fun w => put_yes p [] a c w Hp.out hm (by simp))
      rw [List.append_nil] at P1
      have hpos := heads_pos p a c
      have Hcut := Lib.hid (cut_heads Hp.out hm a c)
      have Hback := Lib.hid (get_back p (s.toList ++ t.toList) a c)
      obtain ⟨x, L, hL⟩ : ∃ x L, heads p a c = x :: L := by
        rcases hh : heads p a c with _ | ⟨x, L⟩
        · rw [hh] at hpos; simp at hpos
        · exact ⟨x, L, rfl⟩
      rw [hL] at P1 hpos Hcut Hback
      clear hL
      have hlen : (s.toList ++ t.toList).length ≤ 131072 := by rw [List.length_append, ← size_toList, ← size_toList]; omega
      have G2 := Lib.hid (fun w => Hback.out w Hp.out hm hlen)
      have HE2 : Hid (bOf ((x :: L) ++ (s.toList ++ t.toList)) = bOf (x :: L) ++ s ++ t) := by show _ = _; rw [append_bOf, append_bOf, toList_bOf, toList_bOf, List.append_assoc]
      have HE3 : Hid (bOf (s.toList ++ t.toList) = s ++ t) := by show _ = _; rw [append_bOf]
      rw [HE2.out, HE3.out] at G2
      have hx1 : ((s ++ t).toList != (s ++ t).toList) = false := by simp
      clear Hback hlen HE2 HE3 hm
      have hxe := empty_false x L
      have hxz : 0 < (bOf (x :: L)).size := by rw [size_bOf]; simp
      have hx0 : (bOf (x :: L))[0] = x := rfl
      have hzs : (bOf (x :: L)).size ≤ 4 := by rw [size_bOf]; exact hpos.2
      obtain ⟨j, hj⟩ : ∃ j, k % (x :: L).length = j := ⟨_, rfl⟩
      have hjl : j < (x :: L).length := by rw [← hj]; exact Nat.mod_lt _ hpos.1
      have hj1 : (k : Int) % ((bOf (x :: L)).size : Int) = (j : Int) := by rw [size_bOf, ← hj]; rfl
      have hj2 : (k : Int).tmod ((bOf (x :: L)).size : Int) = (j : Int) := by rw [size_bOf, ← hj]; rfl
      have hj3 : (j : Int) ≤ ((bOf (x :: L)).size : Int) := by rw [size_bOf]; omega
      have HX : Hid ((bOf (x :: L)).extract 0 j = bOf ((x :: L).take j)) := by show _ = _; rw [extract_front, toList_bOf]
      have he := Hcut.out j hjl
      have G1 := Lib.hid (fun w => Fld.get_at ((x :: L).take j) w (by rw [List.length_take]; omega))
      have hq := gP_none (t := skip ((x :: L).take j)) (by rw [he]; split <;> decide)
      rw [hq.1, hq.2, he] at G1
      have hk1 : (0 : Int) ≤ k := by omega
      have hk2 : (k : Int) ≤ 255 := by omega
      have hemp := empty_true
      clear he hq hj hjl Hcut hk
      by_cases hj4 : j = 1
      · have hj5 : ((j : Int) == 1) = true := by rw [hj4]; rfl
        by_cases hx : x = 255
        · rw [if_pos ⟨hj4, by rw [hx]; rfl⟩] at G1
          have hx3 : ((x.toNat : Int) == 255) = true := by rw [hx]; rfl
          clear hx hj4
          go_enter Try.func6, Try.ntmps6
          go_wp2_with fail
          refine (P1.out _).mono ?_
          rintro e w1 ⟨rfl, hb1⟩
          have HH1 := Lib.hid (HH0.out.trans (hb1.mono HH0.out.size))
          clear hb1
          go_wp2_with fail
          rw [HX.out]
          refine (G1.out _).mono ?_
          rintro e w2 ⟨rfl, hb2⟩
          have HH2 := Lib.hid (HH1.out.trans (hb2.mono HH1.out.size))
          clear hb2
          go_wp2_with fail
          refine (G2.out _).mono ?_
          rintro e w3 ⟨rfl, hb3⟩
          have HH3 := Lib.hid (HH2.out.trans (hb3.mono HH2.out.size))
          clear hb3
          go_wp2_with fail
          refine (alive_any _).mono ?_
          rintro e w4 ⟨rfl, hb4⟩
          have HH4 := Lib.hid (HH3.out.trans (hb4.mono HH3.out.size))
          clear hb4
          go_wp2
          go_ret
          exact ⟨rfl, HH4.out⟩
        · rw [if_neg (fun h => hx (Option.some.inj h.2))] at G1
          have hx3 : ((x.toNat : Int) == 255) = false := no_byte x 255 255 rfl hx
          clear hx hj4
          go_enter Try.func6, Try.ntmps6
          go_wp2_with fail
          refine (P1.out _).mono ?_
          rintro e w1 ⟨rfl, hb1⟩
          have HH1 := Lib.hid (HH0.out.trans (hb1.mono HH0.out.size))
          clear hb1
          go_wp2_with fail
          rw [HX.out]
          refine (G1.out _).mono ?_
          rintro e w2 ⟨rfl, hb2⟩
          have HH2 := Lib.hid (HH1.out.trans (hb2.mono HH1.out.size))
          clear hb2
          go_wp2_with fail
          refine (G2.out _).mono ?_
          rintro e w3 ⟨rfl, hb3⟩
          have HH3 := Lib.hid (HH2.out.trans (hb3.mono HH2.out.size))
          clear hb3
          go_wp2_with fail
          refine (alive_any _).mono ?_
          rintro e w4 ⟨rfl, hb4⟩
          have HH4 := Lib.hid (HH3.out.trans (hb4.mono HH3.out.size))
          clear hb4
          go_wp2
          go_ret
          exact ⟨rfl, HH4.out⟩
      · rw [if_neg (fun h => hj4 h.1)] at G1
        have hj5 : ((j : Int) == 1) = false := by simp; omega
        clear hj4
        go_enter Try.func6, Try.ntmps6
        go_wp2_with fail
        refine (P1.out _).mono ?_
        rintro e w1 ⟨rfl, hb1⟩
        have HH1 := Lib.hid (HH0.out.trans (hb1.mono HH0.out.size))
        clear hb1
        go_wp2_with fail
        rw [HX.out]
        refine (G1.out _).mono ?_
        rintro e w2 ⟨rfl, hb2⟩
        have HH2 := Lib.hid (HH1.out.trans (hb2.mono HH1.out.size))
        clear hb2
        go_wp2_with fail
        refine (G2.out _).mono ?_
        rintro e w3 ⟨rfl, hb3⟩
        have HH3 := Lib.hid (HH2.out.trans (hb3.mono HH2.out.size))
        clear hb3
        go_wp2_with fail
        refine (alive_any _).mono ?_
        rintro e w4 ⟨rfl, hb4⟩
        have HH4 := Lib.hid (HH3.out.trans (hb4.mono HH3.out.size))
        clear hb4
        go_wp2
        go_ret
        exact ⟨rfl, HH4.out⟩

set_option maxRecDepth 100000 in
theorem lifted (os : Os) (started : os.Started) (H : Type) (enc : TypeId × Value → H) :
    ReturnsInHanded {} Try.checked os 6 .any (Rows.fieldEndsSpec.pre6 enc Try.prog Try.f6 Rows.fieldEndsRow.domain false) (Rows.fieldEndsSpec.post enc Try.prog Try.f6 false true false false) := by
  refine returnsInHanded_of_change_sized (C := Try.checked) own started (by kernel_rfl) Try.func6
    (ChangeSpec.witness6 (enc := enc) (C := Try.checked) false ⟨#[], #[.int .u16 0, .agg #[.bool false, .bool false], .string ByteArray.empty, .string ByteArray.empty, .int .u8 0], []⟩ 8 (by kernel_rfl) (by kernel_rfl) (by kernel_rfl) (by kernel_rfl)) ?_
  intro W base args ds gs before hval0 hW hcnd hsz0 _
  have hsz : (DataW.weightsEach Try.prog (Try.f6.params.toList ++ Rows.fieldEndsSpec.plain.varTypes Try.prog) (ds ++ gs)).all (· ≤ reachBytes) = true := hsz0
  have hval : ∀ (j : Nat) t v, Try.f6.params[j]? = some t → args[j]? = some v → Value.okWide Try.prog W .any base t v := hval0
  have hW' := hW
  obtain ⟨p, q, hA0, hV, rfl, hfz, hnd⟩ := hW
  have hlt := hW'.lt
  have hA : DataW.TrodAll enc Try.prog W 0 (fun _ => true) true Try.f6.params.toList args.toList ds p := hA0
  rw [Try.params6] at hA hval hsz
  obtain ⟨v0, vs0, d0, ds0, p0, q0, hargs, rfl, rfl, h0, r0⟩ := trodAll_cons hA
  obtain ⟨v1, vs1, d1, ds1, p1, q1, rfl, rfl, rfl, h1, r1⟩ := trodAll_cons r0
  obtain ⟨v2, vs2, d2, ds2, p2, q2, rfl, rfl, rfl, h2, r2⟩ := trodAll_cons r1
  obtain ⟨v3, vs3, d3, ds3, p3, q3, rfl, rfl, rfl, h3, r3⟩ := trodAll_cons r2
  obtain ⟨v4, vs4, d4, ds4, p4, q4, rfl, rfl, rfl, h4, r4⟩ := trodAll_cons r3
  obtain ⟨rfl, rfl, rfl⟩ := trodAll_nil r4
  obtain rfl : args = #[v0, v1, v2, v3, v4] := by cases args; simp_all
  obtain ⟨rfl, rfl⟩ := trodVars_none hV
  obtain ⟨z0, rfl, rfl, rfl, w0⟩ := open_int Try.underlying22 (hval 0 22 v0 rfl rfl) h0
  obtain ⟨a0, rfl⟩ : ∃ n : Nat, z0 = n := ⟨z0.toNat, by have := bounds_u16 w0; omega⟩
  have b0 := bounds_u16 w0
  obtain ⟨a1, c1, rfl⟩ := comp_of Try.underlying24 (by kernel_rfl) (by kernel_rfl) Try.underlying4 Try.underlying4 (hval 1 24 v1 rfl rfl) h1
  obtain ⟨a2, rfl, rfl, rfl, w2⟩ := open_string Try.underlying9 (hval 2 9 v2 rfl rfl) h2
  obtain ⟨a3, rfl, rfl, rfl, w3⟩ := open_string Try.underlying9 (hval 3 9 v3 rfl rfl) h3
  obtain ⟨z4, rfl, rfl, rfl, w4⟩ := open_int Try.underlying5 (hval 4 5 v4 rfl rfl) h4
  obtain ⟨a4, rfl⟩ : ∃ n : Nat, z4 = n := ⟨z4.toNat, by have := bounds_u8 w4; omega⟩
  have b4 := bounds_u8 w4
  have z2 : a2.size ≤ 140737488351232 := by have h := sized_string hsz (j := 2) (t := 9) rfl rfl; rw [Array.length_toList] at h; exact h
  have z3 : a3.size ≤ 140737488351232 := by have h := sized_string hsz (j := 3) (t := 9) rfl rfl; rw [Array.length_toList] at h; exact h
  clear hA0 hval0 hsz0
  exact (walk a0 a1 c1 a2 a3 a4 (by omega) z2 z3 (by omega) W).mono fun e W' ⟨he, hb⟩ => ⟨_, he, law_post (t := 4) laidOut (by kernel_rfl) rfl rfl Try.underlying4 ⟨rfl, rfl, rfl⟩ hW' hb⟩

theorem over : Rows.fieldEndsRow.holds Try.pinned (OpenSpec.ofChange Rows.fieldEndsSpec) :=
  OpenClaim.holds_of_wide 6 Try.f6 rfl rfl rfl rfl rfl rfl rfl ⟨rfl, rfl, rfl, rfl, rfl⟩ rfl rfl rfl rfl rfl (by kernel_rfl) Try.func6 (by kernel_rfl)
    (of_decide_eq_true (by kernel_rfl)) (by unfold Func.isWrapper; first | (rw [if_pos (by decide +kernel)]; kernel_rfl) | (rw [if_neg (by decide +kernel)]; exact ⟨rfl, rfl⟩))
    (fun os started H enc _ => lifted os started H enc)

theorem proved : Rows.FieldEndsSaid :=
  over
#print axioms proved
end Go.Proofs.Ytppkmfkjghnkeaa.FieldEnds
