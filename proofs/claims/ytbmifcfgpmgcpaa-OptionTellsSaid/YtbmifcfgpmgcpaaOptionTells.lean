/- PROVED: 'halyardlaw08.OptionTells' returns true for every two rows, every text and every type, and leaves them as they were. No condition. -/
import Derived.Test.YtbmifcfgpmgcpaaOptK
import Derived.Test.YtbmifcfgpmgcpaaLaw
import Derived.Test.YtbmifcfgpmgcpaaRows
import Derived.SizedLaws
namespace Go.Proofs.Ytbmifcfgpmgcpaa.OptionTells
open Go.ChangeShapes Go.WideShapes Go.ChangeAt Go.RowKit Go.Proofs.Ytbmifcfgpmgcpaa.Oct Go.Proofs.Ytbmifcfgpmgcpaa.Row Go.Proofs.Ytbmifcfgpmgcpaa.Mem Go.Proofs.Ytbmifcfgpmgcpaa.Opt Go.Proofs.Ytbmifcfgpmgcpaa.Law
open Go.ChangeMaps (open_string shut_string)

set_option maxHeartbeats 4000000 in
set_option maxRecDepth 100000 in
theorem walk (A A' : Option Addr) (n c n' c' : Nat) (l m : List Opt) (s : ByteArray) (t : UInt8) (hn : n ≤ maxLen) (hn' : n' ≤ maxLen) (hA : A = none → c = 0) (hs : s.size ≤ 140737488351232) (w : World) (hl : Opts w w.heap.size A n l) (hm : Opts w w.heap.size A' n' m) :
    Calls Try.prog 3 #[.slice A n c, .slice A' n' c', .string s, .int .u8 t.toNat] w fun e w' => e = .returned (.bool true) ∧ Below w.heap.size w w' := by
  obtain ⟨i0, hi, hz0, hz1, hz2⟩ := info_parts Try.info32
  have HH := Lib.hid (Below.refl w.heap.size w)
  have HL := Lib.hid hl
  have HM := Lib.hid hm
  have HAA := Lib.hid hA
  have Hll := Lib.hid hl.1
  have Hml := Lib.hid hm.1
  clear hl hm hA
  go_enter Try.func3, Try.ntmps3
  go_wp2_with fail
  refine (long_row l A n c _ HL.out hn).mono ?_
  rintro e w' ⟨b, rfl, hq1, rfl⟩
  cases b
  case true =>
    clear hq1
    go_wp2_with fail
    refine (alive_any _).mono ?_
    rintro e w1 ⟨rfl, hb1⟩
    have HL := Lib.hid (HL.out.next hb1)
    have HM := Lib.hid (HM.out.next hb1)
    have HH := Lib.hid (HH.out.trans (hb1.mono HH.out.size))
    clear hb1
    go_wp2
    go_ret
    exact ⟨rfl, HH.out⟩
  case false =>
    obtain ⟨hn70, hd⟩ := hq1 rfl
    clear hq1 hd
    go_wp2_with fail
    refine (long_row m A' n' c' _ HM.out hn').mono ?_
    rintro e w' ⟨b, rfl, hq2, rfl⟩
    cases b
    case true =>
      clear hq2
      go_wp2_with fail
      refine (alive_any _).mono ?_
      rintro e w1 ⟨rfl, hb1⟩
      have HL := Lib.hid (HL.out.next hb1)
      have HM := Lib.hid (HM.out.next hb1)
      have HH := Lib.hid (HH.out.trans (hb1.mono HH.out.size))
      clear hb1
      go_wp2
      go_ret
      exact ⟨rfl, HH.out⟩
    case false =>
      obtain ⟨hn70', hd⟩ := hq2 rfl
      clear hq2 hd
      by_cases h4096 : 4096 < s.size
      · have hx0 : (4096 : Int) < (s.size : Int) := by omega
        go_wp2_with fail
        refine (alive_any _).mono ?_
        rintro e w1 ⟨rfl, hb1⟩
        have HL := Lib.hid (HL.out.next hb1)
        have HM := Lib.hid (HM.out.next hb1)
        have HH := Lib.hid (HH.out.trans (hb1.mono HH.out.size))
        clear hb1
        go_wp2
        go_ret
        exact ⟨rfl, HH.out⟩
      · have hx0 : ¬ (4096 : Int) < (s.size : Int) := by omega
        have Hs := Lib.hid (show s.size ≤ 1048576 by omega)
        have HGL := Lib.hid (show (gL s.toList).length ≤ maxLen by have := gL_le s.toList; unfold maxLen; omega)
        have HWL := Lib.hid (wo_len' t l n Hll.out (by omega))
        have Hn1 := Lib.hid (show n ≤ 1000 by omega)
        have hsz := HH.out.size
        have hy1 := beq_self (bOf (pA l))
        have hy2 := beq_self (fA t l).2
        go_wp2_with (at_builtin; refine append_opts rfl _ _ 22 rfl w.heap.size 32 i0 _ 24 Try.underlying22 hi hz0 hz1 hz2 rfl (.slice none 0 0) 0 [] rfl (World.ownsRow_nil _ _ _ _) w.heap.size A n c l HAA.out rfl HL.out (by unfold maxLen; omega) (by omega) hsz ?_; intro v1 w0 hown0 hgr0; rw [List.nil_append, Nat.zero_add] at hown0; obtain ⟨A0, c0, rfl, hO0⟩ := opts_own hown0 HL.out.2.1; have HO := Lib.hid hO0; have HH0 := Lib.hid (HH.out.grown hgr0 hsz (fun q hq => by cases hq)); have HL0 := Lib.hid (HL.out.next HH0.out); have HM0 := Lib.hid (HM.out.next HH0.out); clear hown0 hgr0 hO0)
        clear HH HL HM hsz
        have HH := HH0
        have HL := HL0
        have HM := HM0
        clear HH0 HL0 HM0
        go_wp2_with fail
        refine (put_row l A0 n c0 _ HO.out hn).mono ?_
        rintro e w1 ⟨rfl, hb1⟩
        have HL := Lib.hid (HL.out.next hb1)
        have HM := Lib.hid (HM.out.next hb1)
        have HO := Lib.hid (HO.out.next hb1)
        have HH := Lib.hid (HH.out.trans (hb1.mono HH.out.size))
        clear hb1
        go_wp2_with fail
        refine (rput_row l A n c _ HL.out hn).mono ?_
        rintro e w2 ⟨rfl, hb2⟩
        have HL := Lib.hid (HL.out.next hb2)
        have HM := Lib.hid (HM.out.next hb2)
        have HO := Lib.hid (HO.out.next hb2)
        have HH := Lib.hid (HH.out.trans (hb2.mono HH.out.size))
        clear hb2
        go_wp2_with fail
        refine (get_any s _).mono ?_
        rintro e w3 ⟨A3, c3, rfl, hO3, hb3⟩
        have HL := Lib.hid (HL.out.next hb3)
        have HM := Lib.hid (HM.out.next hb3)
        have HO := Lib.hid (HO.out.next hb3)
        have HH := Lib.hid (HH.out.trans (hb3.mono HH.out.size))
        clear hb3
        have HX := Lib.hid hO3
        clear hO3
        go_wp2_with fail
        refine (rget_any s _ Hs.out).mono ?_
        rintro e w4 ⟨A4, c4, rfl, hO4, hb4⟩
        have HL := Lib.hid (HL.out.next hb4)
        have HM := Lib.hid (HM.out.next hb4)
        have HO := Lib.hid (HO.out.next hb4)
        have HX := Lib.hid (HX.out.next hb4)
        have HH := Lib.hid (HH.out.trans (hb4.mono HH.out.size))
        clear hb4
        have HY := Lib.hid hO4
        clear hO4
        go_wp2_with fail
        refine (find_row t l A0 n c0 _ HO.out hn).mono ?_
        rintro e w5 ⟨rfl, hb5⟩
        have HL := Lib.hid (HL.out.next hb5)
        have HM := Lib.hid (HM.out.next hb5)
        have HO := Lib.hid (HO.out.next hb5)
        have HX := Lib.hid (HX.out.next hb5)
        have HY := Lib.hid (HY.out.next hb5)
        have HH := Lib.hid (HH.out.trans (hb5.mono HH.out.size))
        clear hb5
        have HL := Lib.hid (HL.out.laid (.cells #[.int .u8 (fA t l).1.toNat, .string (fA t l).2] 32))
        have HM := Lib.hid (HM.out.laid (.cells #[.int .u8 (fA t l).1.toNat, .string (fA t l).2] 32))
        have HO := Lib.hid (HO.out.laid (.cells #[.int .u8 (fA t l).1.toNat, .string (fA t l).2] 32))
        have HX := Lib.hid (HX.out.laid (.cells #[.int .u8 (fA t l).1.toNat, .string (fA t l).2] 32))
        have HY := Lib.hid (HY.out.laid (.cells #[.int .u8 (fA t l).1.toNat, .string (fA t l).2] 32))
        have HP := Lib.hid (at_new w5 (fA t l).1 (fA t l).2)
        have HH := Lib.hid (HH.out.alloc HH.out.size (.cells #[.int .u8 (fA t l).1.toNat, .string (fA t l).2] 32))
        go_wp2_with fail
        refine (rfind_row t l A n c _ HL.out hn).mono ?_
        rintro e w6 ⟨rfl, hb6⟩
        have HL := Lib.hid (HL.out.next hb6)
        have HM := Lib.hid (HM.out.next hb6)
        have HO := Lib.hid (HO.out.next hb6)
        have HX := Lib.hid (HX.out.next hb6)
        have HY := Lib.hid (HY.out.next hb6)
        have HP := Lib.hid (HP.out.callee hb6)
        have HH := Lib.hid (HH.out.trans (hb6.mono HH.out.size))
        clear hb6
        have HL := Lib.hid (HL.out.laid (.cells #[.int .u8 (fA t l).1.toNat, .string (fA t l).2] 32))
        have HM := Lib.hid (HM.out.laid (.cells #[.int .u8 (fA t l).1.toNat, .string (fA t l).2] 32))
        have HO := Lib.hid (HO.out.laid (.cells #[.int .u8 (fA t l).1.toNat, .string (fA t l).2] 32))
        have HX := Lib.hid (HX.out.laid (.cells #[.int .u8 (fA t l).1.toNat, .string (fA t l).2] 32))
        have HY := Lib.hid (HY.out.laid (.cells #[.int .u8 (fA t l).1.toNat, .string (fA t l).2] 32))
        have HP := Lib.hid (HP.out.alloc (.cells #[.int .u8 (fA t l).1.toNat, .string (fA t l).2] 32))
        have HQ := Lib.hid (at_new w6 (fA t l).1 (fA t l).2)
        have HH := Lib.hid (HH.out.alloc HH.out.size (.cells #[.int .u8 (fA t l).1.toNat, .string (fA t l).2] 32))
        go_wp2_with fail
        refine (same_self (gL s.toList) A3 A4 _ _ c3 c4 _ HX.out HY.out HGL.out HGL.out).mono ?_
        rintro e w7 ⟨rfl, hb7⟩
        clear HX
        clear HY
        have HL := Lib.hid (HL.out.next hb7)
        have HM := Lib.hid (HM.out.next hb7)
        have HO := Lib.hid (HO.out.next hb7)
        have HP := Lib.hid (HP.out.callee hb7)
        have HQ := Lib.hid (HQ.out.callee hb7)
        have HH := Lib.hid (HH.out.trans (hb7.mono HH.out.size))
        clear hb7
        have cP0 := HP.out.c0
        have cP1 := HP.out.c1
        simp only at cP0 cP1
        have cQ0 := HQ.out.c0
        have cQ1 := HQ.out.c1
        simp only at cQ0 cQ1
        go_wp2_with fail
        refine (without_row t l A0 n c0 _ HO.out Hn1.out).mono ?_
        rintro e w8 ⟨A8, c8, rfl, hO8, hb8⟩
        clear HP
        clear HQ
        have HL := Lib.hid (HL.out.next hb8)
        have HM := Lib.hid (HM.out.next hb8)
        have HO := Lib.hid (HO.out.next hb8)
        have HH := Lib.hid (HH.out.trans (hb8.mono HH.out.size))
        clear hb8
        have HU := Lib.hid hO8
        clear hO8
        go_wp2_with fail
        refine (rwithout_row t l A n c _ HL.out Hn1.out).mono ?_
        rintro e w9 ⟨A9, c9, rfl, hO9, hb9⟩
        have HL := Lib.hid (HL.out.next hb9)
        have HM := Lib.hid (HM.out.next hb9)
        have HO := Lib.hid (HO.out.next hb9)
        have HU := Lib.hid (HU.out.next hb9)
        have HH := Lib.hid (HH.out.trans (hb9.mono HH.out.size))
        clear hb9
        have HV := Lib.hid hO9
        clear hO9
        go_wp2_with fail
        refine (same_self (wo t l) A8 A9 _ _ c8 c9 _ HU.out HV.out HWL.out HWL.out).mono ?_
        rintro e w10 ⟨rfl, hb10⟩
        clear HU
        clear HV
        have HL := Lib.hid (HL.out.next hb10)
        have HM := Lib.hid (HM.out.next hb10)
        have HO := Lib.hid (HO.out.next hb10)
        have HH := Lib.hid (HH.out.trans (hb10.mono HH.out.size))
        clear hb10
        go_wp2_with fail
        refine (alike_rows l m A0 A' n n' c0 c' _ HO.out HM.out hn hn').mono ?_
        rintro e w11 ⟨rfl, hb11⟩
        have HL := Lib.hid (HL.out.next hb11)
        have HM := Lib.hid (HM.out.next hb11)
        have HO := Lib.hid (HO.out.next hb11)
        have HH := Lib.hid (HH.out.trans (hb11.mono HH.out.size))
        clear hb11
        go_wp2_with fail
        refine (same_rows l m A A' n n' c c' _ HL.out HM.out hn hn').mono ?_
        rintro e w12 ⟨rfl, hb12⟩
        have HL := Lib.hid (HL.out.next hb12)
        have HM := Lib.hid (HM.out.next hb12)
        have HO := Lib.hid (HO.out.next hb12)
        have HH := Lib.hid (HH.out.trans (hb12.mono HH.out.size))
        clear hb12
        go_wp2_with fail
        refine (same_self l A0 A n n c0 c _ HO.out HL.out hn hn).mono ?_
        rintro e w13 ⟨rfl, hb13⟩
        have HL := Lib.hid (HL.out.next hb13)
        have HM := Lib.hid (HM.out.next hb13)
        have HO := Lib.hid (HO.out.next hb13)
        have HH := Lib.hid (HH.out.trans (hb13.mono HH.out.size))
        clear hb13
        go_wp2_with fail
        refine (alive_any _).mono ?_
        rintro e w14 ⟨rfl, hb14⟩
        have HL := Lib.hid (HL.out.next hb14)
        have HM := Lib.hid (HM.out.next hb14)
        have HO := Lib.hid (HO.out.next hb14)
        have HH := Lib.hid (HH.out.trans (hb14.mono HH.out.size))
        clear hb14
        go_wp2
        go_ret
        exact ⟨rfl, HH.out⟩

set_option maxRecDepth 100000 in
theorem lifted (os : Os) (started : os.Started) (H : Type) (enc : TypeId × Value → H) :
    ReturnsInHanded {} Try.checked os 3 .any (Rows.optionTellsSpec.pre6 enc Try.prog Try.f3 Rows.optionTellsRow.domain false) (Rows.optionTellsSpec.post enc Try.prog Try.f3 false true false false) := by
  refine returnsInHanded_of_change_sized (C := Try.checked) own started (by kernel_rfl) Try.func3
    (ChangeSpec.witness6 (enc := enc) (C := Try.checked) false ⟨#[], #[.slice none 0 0, .slice none 0 0, .string ByteArray.empty, .int .u8 0], []⟩ 8 (by kernel_rfl) (by kernel_rfl) (by kernel_rfl) (by kernel_rfl)) ?_
  intro W base args ds gs before hval0 hW hcnd hsz0 _
  have hsz : (DataW.weightsEach Try.prog (Try.f3.params.toList ++ Rows.optionTellsSpec.plain.varTypes Try.prog) (ds ++ gs)).all (· ≤ reachBytes) = true := hsz0
  have hval : ∀ (j : Nat) t v, Try.f3.params[j]? = some t → args[j]? = some v → Value.okWide Try.prog W .any base t v := hval0
  have hW' := hW
  obtain ⟨p, q, hA0, hV, rfl, hfz, hnd⟩ := hW
  have hlt := hW'.lt
  have hA : DataW.TrodAll enc Try.prog W 0 (fun _ => true) true Try.f3.params.toList args.toList ds p := hA0
  rw [Try.params3] at hA hval hsz
  obtain ⟨v0, vs0, d0, ds0, p0, q0, hargs, rfl, rfl, h0, r0⟩ := trodAll_cons hA
  obtain ⟨v1, vs1, d1, ds1, p1, q1, rfl, rfl, rfl, h1, r1⟩ := trodAll_cons r0
  obtain ⟨v2, vs2, d2, ds2, p2, q2, rfl, rfl, rfl, h2, r2⟩ := trodAll_cons r1
  obtain ⟨v3, vs3, d3, ds3, p3, q3, rfl, rfl, rfl, h3, r3⟩ := trodAll_cons r2
  obtain ⟨rfl, rfl, rfl⟩ := trodAll_nil r3
  obtain rfl : args = #[v0, v1, v2, v3] := by cases args; simp_all
  obtain ⟨rfl, rfl⟩ := trodVars_none hV
  obtain ⟨A0, n0, c0, rfl, m0, hA0, l0, hO0⟩ := opts_of Try.underlying22 Try.underlying32 (by kernel_rfl) (by kernel_rfl) Try.underlying5 Try.underlying9 (hval 0 22 v0 rfl rfl) h0 (fun n hn => of_decide_eq_true (List.all_eq_true.1 hsz n (DataW.weights_mem_each (j := 0) (t := 22) rfl rfl n hn)))
  obtain ⟨A1, n1, c1, rfl, m1, hA1, l1, hO1⟩ := opts_of Try.underlying22 Try.underlying32 (by kernel_rfl) (by kernel_rfl) Try.underlying5 Try.underlying9 (hval 1 22 v1 rfl rfl) h1 (fun n hn => of_decide_eq_true (List.all_eq_true.1 hsz n (DataW.weights_mem_each (j := 1) (t := 22) rfl rfl n hn)))
  obtain ⟨a2, rfl, rfl, rfl, w2⟩ := open_string Try.underlying9 (hval 2 9 v2 rfl rfl) h2
  obtain ⟨z3, rfl, rfl, rfl, w3⟩ := open_int Try.underlying5 (hval 3 5 v3 rfl rfl) h3
  have b3 := bounds_u8 w3
  obtain ⟨a3, rfl⟩ := u8_of (z := z3) (by omega) (by omega)
  have z2 : a2.size ≤ 140737488351232 := by have h := sized_string hsz (j := 2) (t := 9) rfl rfl; rw [Array.length_toList] at h; exact h
  clear hA0 hval0 hsz0
  exact (walk A0 A1 n0 c0 n1 c1 l0 l1 a2 a3 m0 m1 hA0 z2 W hO0 hO1).mono fun e W' ⟨he, hb⟩ => ⟨_, he, law_post (t := 4) laidOut (by kernel_rfl) rfl rfl Try.underlying4 ⟨rfl, rfl, rfl⟩ hW' hb⟩

theorem over : Rows.optionTellsRow.holds Try.pinned (OpenSpec.ofChange Rows.optionTellsSpec) :=
  OpenClaim.holds_of_wide 3 Try.f3 rfl rfl rfl rfl rfl rfl rfl ⟨rfl, rfl, rfl, rfl, rfl⟩ rfl rfl rfl rfl rfl (by kernel_rfl) Try.func3 (by kernel_rfl)
    (of_decide_eq_true (by kernel_rfl)) (by unfold Func.isWrapper; first | (rw [if_pos (by decide +kernel)]; kernel_rfl) | (rw [if_neg (by decide +kernel)]; exact ⟨rfl, rfl⟩))
    (fun os started H enc _ => lifted os started H enc)

theorem proved : Rows.OptionTellsSaid :=
  over
#print axioms proved
end Go.Proofs.Ytbmifcfgpmgcpaa.OptionTells
