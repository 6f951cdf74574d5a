/- PROVED: 'halyardlaw06.FieldBack' returns true for every number, every two texts and every compression, and leaves them as they were. No condition. -/
import Derived.Test.YtppkmfkjghnkeaaFldF
import Derived.Test.YtppkmfkjghnkeaaComp
import Derived.Test.YtppkmfkjghnkeaaLaw
import Derived.Test.YtppkmfkjghnkeaaRows
import Derived.SizedLaws
namespace Go.Proofs.Ytppkmfkjghnkeaa.FieldBack
open Go.ChangeShapes Go.WideShapes Go.ChangeAt Go.RowKit Go.Proofs.Ytppkmfkjghnkeaa.Oct Go.Proofs.Ytppkmfkjghnkeaa.Row Go.Proofs.Ytppkmfkjghnkeaa.Fld Go.Proofs.Ytppkmfkjghnkeaa.Law
open Go.ChangeMaps (open_string shut_string)

set_option maxHeartbeats 4000000 in
set_option maxRecDepth 100000 in
theorem walk (p : Nat) (s : ByteArray) (a c : Bool) (t : ByteArray) (hp : p < 65536) (hs : s.size ≤ 140737488351232) (ht : t.size ≤ 140737488351232) (w : World) :
    Calls Try.prog 4 #[.int .u16 p, .string s, .agg #[.bool a, .bool c], .string t] w fun e w' => e = .returned (.bool true) ∧ Below w.heap.size w w' := by
  obtain ⟨l, rfl⟩ : ∃ l, s = bOf l := ⟨s.toList, (bOf_toList s).symm⟩
  have Hp := Lib.hid hp; clear hp
  have HBx := Lib.hid (box_laid w a c)
  have HH0 := Lib.hid ((Below.refl w.heap.size w).alloc (Nat.le_refl _) (.cells #[.bool a, .bool c] 24))
  by_cases h : 16384 < ((bOf l).size : Int) + (t.size : Int)
  · go_enter Try.func4, Try.ntmps4
    go_wp2_with fail
    refine (alive_any _).mono ?_
    rintro e w1 ⟨rfl, hb1⟩
    have HH1 := Lib.hid (HH0.out.trans (hb1.mono HH0.out.size))
    clear hb1
    go_wp2
    go_ret
    exact ⟨rfl, HH1.out⟩
  · have hz := size_bOf l
    have Hl := Lib.hid (show l.length ≤ 131072 by omega)
    have Ht := Lib.hid (show t.size ≤ 1048576 by omega)
    have hx1 : ((bOf l).toList != (bOf l).toList) = false := by simp
    have G := Lib.hid (fun w => get_any t w Ht.out)
    have hrl : (gR (skip t.toList)).length ≤ 16384 := by have h1 := gR_le (skip t.toList); have h2 := skip_le t.toList; rw [← size_toList] at h2; omega
    clear hz
    cases hm : may p
    · have P1 := Lib.hid (fun w => put_no p (bOf l) a c w Hp.out hm)
      have M1 := Lib.hid (fun w => may_is p false w Hp.out hm)
      clear hm
      by_cases hE : gE (skip t.toList) = 0
      · have hmq := gE_ok hE
        have hql := gP_lt (skip t.toList)
        rw [hE] at G
        generalize gP (skip t.toList) = q at *
        generalize gR (skip t.toList) = r at *
        clear hE
        have Hrl := Lib.hid hrl
        have hr2 : (bOf r).size ≤ 16384 := by rw [size_bOf]; exact hrl
        have hsz : ((bOf (heads q false false ++ r)).size : Int) = ((bOf r).size : Int) + 4 := by rw [size_bOf, size_bOf, List.length_append, heads_length]; simp; omega
        have hx7 : ((bOf (heads q false false ++ r)).size : Int) == ((bOf r).size : Int) + 4 := by rw [hsz]; simp
        clear hsz hrl
        have hx6 := beq_self (bOf r)
        have P2 := Lib.hid (fun w => put_yes q r false false w hql hmq (by have := Hrl.out; omega))
        have G2 := Lib.hid (fun w => get_back q r false false w hql hmq (by have := Hrl.out; omega))
        generalize bOf (heads q false false ++ r) = X at *
        clear hmq hql
        go_enter Try.func4, Try.ntmps4
        go_wp2_with fail
        refine (P1.out _).mono ?_
        rintro e w1 ⟨rfl, hb1⟩
        have HH1 := Lib.hid (HH0.out.trans (hb1.mono HH0.out.size))
        clear hb1
        go_wp2_with fail
        refine (M1.out _).mono ?_
        rintro e w2 ⟨rfl, hb2⟩
        have HH2 := Lib.hid (HH1.out.trans (hb2.mono HH1.out.size))
        clear hb2
        go_wp2_with fail
        refine (G.out _).mono ?_
        rintro e w3 ⟨rfl, hb3⟩
        have HH3 := Lib.hid (HH2.out.trans (hb3.mono HH2.out.size))
        clear hb3
        go_wp2_with fail
        refine (P2.out _).mono ?_
        rintro e w4 ⟨rfl, hb4⟩
        have HH4 := Lib.hid (HH3.out.trans (hb4.mono HH3.out.size))
        clear hb4
        go_wp2_with fail
        refine (G2.out _).mono ?_
        rintro e w5 ⟨rfl, hb5⟩
        have HH5 := Lib.hid (HH4.out.trans (hb5.mono HH4.out.size))
        clear hb5
        go_wp2_with fail
        refine (alive_any _).mono ?_
        rintro e w6 ⟨rfl, hb6⟩
        have HH6 := Lib.hid (HH5.out.trans (hb6.mono HH5.out.size))
        clear hb6
        go_wp2
        go_ret
        exact ⟨rfl, HH6.out⟩
      · have hn := gP_none hE
        rw [hn.1, hn.2] at G
        have hE2 : (((gE (skip t.toList) : Nat) : Int) != 0) = true := by simp; exact hE
        clear hn hE hrl
        generalize gE (skip t.toList) = e at *
        have hx6 : (bOf []).toList.isEmpty = true := empty_true
        go_enter Try.func4, Try.ntmps4
        go_wp2_with fail
        refine (P1.out _).mono ?_
        rintro e w1 ⟨rfl, hb1⟩
        have HH1 := Lib.hid (HH0.out.trans (hb1.mono HH0.out.size))
        clear hb1
        go_wp2_with fail
        refine (M1.out _).mono ?_
        rintro e w2 ⟨rfl, hb2⟩
        have HH2 := Lib.hid (HH1.out.trans (hb2.mono HH1.out.size))
        clear hb2
        go_wp2_with fail
        refine (G.out _).mono ?_
        rintro e w3 ⟨rfl, hb3⟩
        have HH3 := Lib.hid (HH2.out.trans (hb3.mono HH2.out.size))
        clear hb3
        go_wp2_with fail
        refine (alive_any _).mono ?_
        rintro e w4 ⟨rfl, hb4⟩
        have HH4 := Lib.hid (HH3.out.trans (hb4.mono HH3.out.size))
        clear hb4
        go_wp2
        go_ret
        exact ⟨rfl, HH4.out⟩
    · have P1 := Lib.hid (fun w => put_yes p l a c w Hp.out hm (by have := Hl.out; omega))
      have M1 := Lib.hid (fun w => may_is p true w Hp.out hm)
      have G1 := Lib.hid (fun w => get_back p l a c w Hp.out hm Hl.out)
      clear hm
      by_cases hE : gE (skip t.toList) = 0
      · have hmq := gE_ok hE
        have hql := gP_lt (skip t.toList)
        rw [hE] at G
        generalize gP (skip t.toList) = q at *
        generalize gR (skip t.toList) = r at *
        clear hE
        have Hrl := Lib.hid hrl
        have hr2 : (bOf r).size ≤ 16384 := by rw [size_bOf]; exact hrl
        have hsz : ((bOf (heads q false false ++ r)).size : Int) = ((bOf r).size : Int) + 4 := by rw [size_bOf, size_bOf, List.length_append, heads_length]; simp; omega
        have hx7 : ((bOf (heads q false false ++ r)).size : Int) == ((bOf r).size : Int) + 4 := by rw [hsz]; simp
        clear hsz hrl
        have hx6 := beq_self (bOf r)
        have P2 := Lib.hid (fun w => put_yes q r false false w hql hmq (by have := Hrl.out; omega))
        have G2 := Lib.hid (fun w => get_back q r false false w hql hmq (by have := Hrl.out; omega))
        generalize bOf (heads q false false ++ r) = X at *
        clear hmq hql
        go_enter Try.func4, Try.ntmps4
        go_wp2_with fail
        refine (P1.out _).mono ?_
        rintro e w1 ⟨rfl, hb1⟩
        have HH1 := Lib.hid (HH0.out.trans (hb1.mono HH0.out.size))
        clear hb1
        go_wp2_with fail
        refine (M1.out _).mono ?_
        rintro e w2 ⟨rfl, hb2⟩
        have HH2 := Lib.hid (HH1.out.trans (hb2.mono HH1.out.size))
        clear hb2
        go_wp2_with fail
        refine (G1.out _).mono ?_
        rintro e w3 ⟨rfl, hb3⟩
        have HH3 := Lib.hid (HH2.out.trans (hb3.mono HH2.out.size))
        clear hb3
        go_wp2_with fail
        refine (G.out _).mono ?_
        rintro e w4 ⟨rfl, hb4⟩
        have HH4 := Lib.hid (HH3.out.trans (hb4.mono HH3.out.size))
        clear hb4
        go_wp2_with fail
        refine (P2.out _).mono ?_
        rintro e w5 ⟨rfl, hb5⟩
        have HH5 := Lib.hid (HH4.out.trans (hb5.mono HH4.out.size))
        clear hb5
        go_wp2_with fail
        refine (G2.out _).mono ?_
        rintro e w6 ⟨rfl, hb6⟩
        have HH6 := Lib.hid (HH5.out.trans (hb6.mono HH5.out.size))
        clear hb6
        go_wp2_with fail
        refine (alive_any _).mono ?_
        rintro e w7 ⟨rfl, hb7⟩
        have HH7 := Lib.hid (HH6.out.trans (hb7.mono HH6.out.size))
        clear hb7
        go_wp2
        go_ret
        exact ⟨rfl, HH7.out⟩
      · have hn := gP_none hE
        rw [hn.1, hn.2] at G
        have hE2 : (((gE (skip t.toList) : Nat) : Int) != 0) = true := by simp; exact hE
        clear hn hE hrl
        generalize gE (skip t.toList) = e at *
        have hx6 : (bOf []).toList.isEmpty = true := empty_true
        go_enter Try.func4, Try.ntmps4
        go_wp2_with fail
        refine (P1.out _).mono ?_
        rintro e w1 ⟨rfl, hb1⟩
        have HH1 := Lib.hid (HH0.out.trans (hb1.mono HH0.out.size))
        clear hb1
        go_wp2_with fail
        refine (M1.out _).mono ?_
        rintro e w2 ⟨rfl, hb2⟩
        have HH2 := Lib.hid (HH1.out.trans (hb2.mono HH1.out.size))
        clear hb2
        go_wp2_with fail
        refine (G1.out _).mono ?_
        rintro e w3 ⟨rfl, hb3⟩
        have HH3 := Lib.hid (HH2.out.trans (hb3.mono HH2.out.size))
        clear hb3
        go_wp2_with fail
        refine (G.out _).mono ?_
        rintro e w4 ⟨rfl, hb4⟩
        have HH4 := Lib.hid (HH3.out.trans (hb4.mono HH3.out.size))
        clear hb4
        go_wp2_with fail
        refine (alive_any _).mono ?_
        rintro e w5 ⟨rfl, hb5⟩
        have HH5 := Lib.hid (HH4.out.trans (hb5.mono HH4.out.size))
        clear hb5
        go_wp2
        go_ret
        exact ⟨rfl, HH5.out⟩

set_option maxRecDepth 100000 in
theorem lifted (os : Os) (started : os.Started) (H : Type) (enc : TypeId × Value → H) :
    ReturnsInHanded {} Try.checked os 4 .any (Rows.fieldBackSpec.pre6 enc Try.prog Try.f4 Rows.fieldBackRow.domain false) (Rows.fieldBackSpec.post enc Try.prog Try.f4 false true false false) := by
  refine returnsInHanded_of_change_sized (C := Try.checked) own started (by kernel_rfl) Try.func4
    (ChangeSpec.witness6 (enc := enc) (C := Try.checked) false ⟨#[], #[.int .u16 0, .string ByteArray.empty, .agg #[.bool false, .bool false], .string ByteArray.empty], []⟩ 8 (by kernel_rfl) (by kernel_rfl) (by kernel_rfl) (by kernel_rfl)) ?_
  intro W base args ds gs before hval0 hW hcnd hsz0 _
  have hsz : (DataW.weightsEach Try.prog (Try.f4.params.toList ++ Rows.fieldBackSpec.plain.varTypes Try.prog) (ds ++ gs)).all (· ≤ reachBytes) = true := hsz0
  have hval : ∀ (j : Nat) t v, Try.f4.params[j]? = some t → args[j]? = some v → Value.okWide Try.prog W .any base t v := hval0
  have hW' := hW
  obtain ⟨p, q, hA0, hV, rfl, hfz, hnd⟩ := hW
  have hlt := hW'.lt
  have hA : DataW.TrodAll enc Try.prog W 0 (fun _ => true) true Try.f4.params.toList args.toList ds p := hA0
  rw [Try.params4] at hA hval hsz
  obtain ⟨v0, vs0, d0, ds0, p0, q0, hargs, rfl, rfl, h0, r0⟩ := trodAll_cons hA
  obtain ⟨v1, vs1, d1, ds1, p1, q1, rfl, rfl, rfl, h1, r1⟩ := trodAll_cons r0
  obtain ⟨v2, vs2, d2, ds2, p2, q2, rfl, rfl, rfl, h2, r2⟩ := trodAll_cons r1
  obtain ⟨v3, vs3, d3, ds3, p3, q3, rfl, rfl, rfl, h3, r3⟩ := trodAll_cons r2
  obtain ⟨rfl, rfl, rfl⟩ := trodAll_nil r3
  obtain rfl : args = #[v0, v1, v2, v3] := by cases args; simp_all
  obtain ⟨rfl, rfl⟩ := trodVars_none hV
  obtain ⟨z0, rfl, rfl, rfl, w0⟩ := open_int Try.underlying22 (hval 0 22 v0 rfl rfl) h0
  obtain ⟨a0, rfl⟩ : ∃ n : Nat, z0 = n := ⟨z0.toNat, by have := bounds_u16 w0; omega⟩
  have b0 := bounds_u16 w0
  obtain ⟨a1, rfl, rfl, rfl, w1⟩ := open_string Try.underlying9 (hval 1 9 v1 rfl rfl) h1
  obtain ⟨a2, c2, rfl⟩ := comp_of Try.underlying24 (by kernel_rfl) (by kernel_rfl) Try.underlying4 Try.underlying4 (hval 2 24 v2 rfl rfl) h2
  obtain ⟨a3, rfl, rfl, rfl, w3⟩ := open_string Try.underlying9 (hval 3 9 v3 rfl rfl) h3
  have z1 : a1.size ≤ 140737488351232 := by have h := sized_string hsz (j := 1) (t := 9) rfl rfl; rw [Array.length_toList] at h; exact h
  have z3 : a3.size ≤ 140737488351232 := by have h := sized_string hsz (j := 3) (t := 9) rfl rfl; rw [Array.length_toList] at h; exact h
  clear hA0 hval0 hsz0
  exact (walk a0 a1 a2 c2 a3 (by omega) z1 z3 W).mono fun e W' ⟨he, hb⟩ => ⟨_, he, law_post (t := 4) laidOut (by kernel_rfl) rfl rfl Try.underlying4 ⟨rfl, rfl, rfl⟩ hW' hb⟩

theorem over : Rows.fieldBackRow.holds Try.pinned (OpenSpec.ofChange Rows.fieldBackSpec) :=
  OpenClaim.holds_of_wide 4 Try.f4 rfl rfl rfl rfl rfl rfl rfl ⟨rfl, rfl, rfl, rfl, rfl⟩ rfl rfl rfl rfl rfl (by kernel_rfl) Try.func4 (by kernel_rfl)
    (of_decide_eq_true (by kernel_rfl)) (by unfold Func.isWrapper; first | (rw [if_pos (by decide +kernel)]; kernel_rfl) | (rw [if_neg (by decide +kernel)]; exact ⟨rfl, rfl⟩))
    (fun os started H enc _ => lifted os started H enc)

theorem proved : Rows.FieldBackSaid :=
  over
#print axioms proved
end Go.Proofs.Ytppkmfkjghnkeaa.FieldBack
