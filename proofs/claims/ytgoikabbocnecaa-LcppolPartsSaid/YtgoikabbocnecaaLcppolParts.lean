/- PROVED: 'halyardlaw14.LcppolParts' returns true for every configuration, number and request, and leaves them as they were. No condition. -/
import Derived.Test.YtgoikabbocnecaaG8
import Derived.Test.YtgoikabbocnecaaPolX
import Derived.Test.YtgoikabbocnecaaG4
import Derived.Test.YtgoikabbocnecaaLcoEq
import Derived.Test.YtgoikabbocnecaaLaw
import Derived.Test.YtgoikabbocnecaaRows
import Derived.SizedLaws
import Derived.Deep.QuietTactic
import Derived.Deep.Quiet
import Derived.BigQuiet
set_option linter.unusedSimpArgs false
set_option linter.unusedVariables false
namespace Go.Proofs.Ytgoikabbocnecaa.LcppolParts
open Go.ChangeShapes Go.WideShapes Go.ChangeAt Go.RowKit Go.Proofs.Ytgoikabbocnecaa.Oct Go.Proofs.Ytgoikabbocnecaa.Row Go.Proofs.Ytgoikabbocnecaa.Mem Go.Proofs.Ytgoikabbocnecaa.Opt Go.Proofs.Ytgoikabbocnecaa.Lco Go.Proofs.Ytgoikabbocnecaa.Law Go.Proofs.Ytgoikabbocnecaa.Pol
theorem own : ownKnob Try.prog.godebug = none := by kernel_rfl
theorem laidOut : laidOutB Try.prog = true := by kernel_rfl
theorem newP_ok {c : Conf} (m : UInt32) (h : mayC c = true) : (newP c m).naks = 0 ∧ (newP c m).loops = 0 ∧ 1 ≤ (newP c m).c.mn ∧ (newP c m).c.can ≤ 3 := by
  unfold mayC at h
  simp only [Bool.and_eq_true, decide_eq_true_eq] at h
  exact ⟨rfl, rfl, h.1.2, h.1.1.1.2⟩
set_option maxHeartbeats 8000000 in
set_option maxRecDepth 100000 in
theorem walk (cf : Conf) (mg : UInt32) (A : Option Addr) (n c : Nat) (l : List Opt) (w : World) (hn : n ≤ maxLen) (hA : A = none → c = 0) (hl : Opts w w.heap.size A n l) :
    Calls Try.prog 3 #[.agg #[Value.int .u16 cf.mru.toNat, .bool cf.ha, .int .u32 cf.accm.toNat, .int .u8 cf.auth.toNat, .int .u8 cf.takes.toNat, .int .u8 cf.can.toNat, .bool cf.mg, .bool cf.pfc, .bool cf.acfc, .int .i64 cf.mn], .int .u32 mg.toNat, .slice A n c] w fun e w' => e = .returned (.bool true) ∧ Below w.heap.size w w' := by
  obtain ⟨W, hW, HW⟩ := boxC w cf
  obtain ⟨c0, c1, c2, c3, c4, c5, c6, c7, c8, c9⟩ := HW.out.1.all
  have HB := Lib.hid HW.out.2.1
  have HL := Lib.hid hl
  have HG := Lib.hid (long_row l A n c W ((hl.below HB.out).more HB.out.size) hn)
  clear hl HW
  go_enter Try.func3, Try.ntmps3
  go_wp2_with fail
  refine HG.out.mono ?_
  rintro e _ ⟨b, rfl, hb, rfl⟩
  cases b
  · obtain ⟨hn70, _⟩ := hb rfl
    clear hb HG hn
    cases hm : mayC cf
    · go_wp2_with fail
      refine (new_no cf mg W hm).mono ?_
      rintro e w1 ⟨rfl, hb1⟩
      have HB1 := Lib.hid (HB.out.trans (hb1.mono HB.out.size))
      clear hb1 hm
      go_wp2_with fail
      refine (alive_any _).mono ?_
      rintro e w2 ⟨rfl, hb2⟩
      have HB2 := Lib.hid (HB1.out.trans (hb2.mono HB1.out.size))
      clear hb2
      go_wp2
      go_ret
      exact ⟨rfl, HB2.out⟩
    · have HK := Lib.hid (newP_ok mg hm)
      go_wp2_with fail
      refine (new_ok cf mg W hm).mono ?_
      rintro e w1 ⟨g, rfl, hg, hp, hb1⟩
      have HB1 := Lib.hid (HB.out.trans (hb1.mono HB.out.size))
      have HP1 := Lib.hid hp
      have HGl : Hid (w.heap.size ≤ g) := Nat.le_trans HB.out.size hg
      clear hb1 hp hg hm c0 c1 c2 c3 c4 c5 c6 c7 c8 c9 hW HB
      generalize newP cf mg = p at *
      have hnk : p.naks ≤ 1000 := by rw [HK.out.1]; omega
      have hlk : p.loops ≤ 1000000 := by rw [HK.out.2.1]; omega
      have HO1 := Lib.hid ((HL.out.below HB1.out).more HB1.out.size)
      by_cases hr : refs (vs p l) = []
      · by_cases hp : poors (vs p l) = []
        · obtain ⟨hC, ha, _⟩ := ack_of hr hp
          obtain ⟨y, hy, _⟩ := got_all (fun o ho => (acks_good hr hp o ho).2) ((clean p l).1 hr).2
          have HJ := Lib.hid (judge_at (m := n) HP1.out HO1.out hA (by omega) hnk hlk hC ha HL.out.1)
          have HY := Lib.hid hy
          clear hC ha hr hp hy hnk hlk
          go_wp2_with fail
          refine HJ.out.mono ?_
          rintro e w2 ⟨A2, c2, rfl, ho2, hp2, hm2⟩
          have HB2 := Lib.hid (HB1.out.trans (hm2.below HB1.out.size (fun k e => by rw [e]; exact HGl.out)))
          have HX2 := Lib.hid ho2
          clear ho2 hp2 hm2 HJ HO1
          go_wp2_with fail
          refine (get_row l A2 n c2 w2 HX2.out (by omega)).mono ?_
          rintro e w3 hq
          obtain ⟨A3, c3, rfl, _, hb3⟩ := getQ_some HY.out hq
          rw [List.length_nil]
          unfold lv
          obtain ⟨V, hV, HV⟩ := boxL w3 y
          have HB3 : Hid (Below w.heap.size w V) := (HB2.out.trans (hb3.mono HB2.out.size)).trans (HV.out.2.1.mono (HB2.out.trans (hb3.mono HB2.out.size)).size)
          have HX3 := Lib.hid ((HX2.out.next hb3).next HV.out.2.1)
          clear hq hb3 HX2 HB2
          go_wp2_with fail
          refine (same_self l A2 A n n c2 c V HX3.out ((HL.out.below HB3.out).more HB3.out.size) (by unfold maxLen; omega) (by unfold maxLen; omega)).mono ?_
          rintro e w4 ⟨rfl, hb4⟩
          have HB4 := Lib.hid (HB3.out.trans (hb4.mono HB3.out.size))
          clear hb4
          go_wp2_with fail
          refine (alive_any _).mono ?_
          rintro e w5 ⟨rfl, hb5⟩
          have HB5 := Lib.hid (HB4.out.trans (hb5.mono HB4.out.size))
          clear hb5
          go_wp2
          go_ret
          exact ⟨rfl, HB5.out⟩
        · have hx : ¬ (p.naks : Int) = p.c.mn := by rw [HK.out.1]; have := HK.out.2.2.1; omega
          obtain ⟨hC, ha, _⟩ := nak_of hr hp hx
          obtain ⟨hg1, hd1, hf1⟩ := naks_ok hr
          obtain ⟨y, hy, _⟩ := got_all hg1 hd1
          have hne := insts_ne hr hp
          have HJ := Lib.hid (judge_at (m := (insts (vs p l)).length) HP1.out HO1.out hA (by omega) hnk hlk hC ha rfl)
          have HY := Lib.hid hy
          have HF := Lib.hid hf1
          have hil : (insts (vs p l)).length ≤ n := by
            rw [(clean_vs hr).2, List.length_map, ← HL.out.1]
            exact List.length_filter_le _ _
          have hpos : 0 < (insts (vs p l)).length := List.length_pos_iff.2 hne
          clear hC ha hr hp hy hnk hlk hx hg1 hd1 hf1 hne
          generalize insts (vs p l) = a at *
          obtain ⟨q, hq⟩ : ∃ q, a.length = q := ⟨_, rfl⟩
          rw [hq] at HJ hil hpos
          have HQ := Lib.hid hq
          clear hq
          have hpos1 : ((q : Int) == 0) = false := by rw [beq_eq_false_iff_ne]; omega
          go_wp2_with fail
          refine HJ.out.mono ?_
          rintro e w2 ⟨A2, c2, rfl, ho2, hp2, hm2⟩
          have HB2 := Lib.hid (HB1.out.trans (hm2.below HB1.out.size (fun k e => by rw [e]; exact HGl.out)))
          have HX2 := Lib.hid ho2
          clear ho2 hp2 hm2 HJ HO1
          go_wp2_with fail
          refine (get_row a A2 q c2 w2 HX2.out (by omega)).mono ?_
          rintro e w3 hq
          obtain ⟨A3, c3, rfl, _, hb3⟩ := getQ_some HY.out hq
          rw [List.length_nil]
          unfold lv
          obtain ⟨V, hV, HV⟩ := boxL w3 y
          have HB3 : Hid (Below w.heap.size w V) := (HB2.out.trans (hb3.mono HB2.out.size)).trans (HV.out.2.1.mono (HB2.out.trans (hb3.mono HB2.out.size)).size)
          have HX3 := Lib.hid ((HX2.out.next hb3).next HV.out.2.1)
          clear hq hb3 HX2 HB2
          go_wp2_with fail
          go_loopw [14] (fun i wr => ∃ k : Nat, k ≤ q ∧ i = .int .i64 k ∧ Hid (Below V.heap.size V wr)) (fun i _ => q - (intOf i).toNat)
          case atStart => exact ⟨0, Nat.zero_le _, rfl, Below.refl _ _⟩
          case round =>
            obtain ⟨k, hk, rfl, HR⟩ := hrel
            have HBr := Lib.hid (HB3.out.trans (HR.out.mono HB3.out.size))
            by_cases hlt : k < q
            · obtain ⟨ad, o, rfl, hB, ho, hS1, hc0, hc1⟩ := (HX3.out.below HR.out).at_ hlt
              obtain ⟨o2, hf2, hne2⟩ := HF.out o (List.mem_of_getElem? ho)
              have HFF := Lib.hid (fAB_some hf2)
              have HE := Lib.hid (decide_eq_false hne2)
              clear ho hf2 hne2
              go_wp2_with fail
              refine (rfind_any o.1 l _ A n c wr (HL.out.below HBr.out) (by unfold maxLen; omega) HBr.out.size).mono ?_
              rintro e w5 ⟨rfl, hb5⟩
              rw [HFF.out.1, HFF.out.2]
              obtain ⟨X, hX, HXX⟩ := boxO w5 o2
              have HR5 := Lib.hid ((HR.out.trans (hb5.mono HR.out.size)).trans (HXX.out.2.1.mono (HR.out.trans (hb5.mono HR.out.size)).size))
              obtain ⟨ad', o', e1, _, ho', _, d0, d1⟩ := (HX3.out.below HR5.out).at_ hlt
              cases e1
              obtain rfl : o = o' := by
                obtain ⟨_, o'', e2, _, ho'', _⟩ := (HX3.out.below HR.out).at_ hlt
                cases e2
                have h5 := (HR5.out.cell (p := ad.add (k * 2)) (by rw [Oct.block_add]; exact hB))
                have h7 := (HR.out.cell (p := ad.add (k * 2)) (by rw [Oct.block_add]; exact hB))
                have h8 := (HR5.out.cell (p := ⟨(ad.add (k * 2)).block, (ad.add (k * 2)).off + 1, none⟩) (by show (ad.add (k * 2)).block < _; rw [Oct.block_add]; exact hB))
                have h9 := (HR.out.cell (p := ⟨(ad.add (k * 2)).block, (ad.add (k * 2)).off + 1, none⟩) (by show (ad.add (k * 2)).block < _; rw [Oct.block_add]; exact hB))
                rw [h5, ← h7, hc0] at d0
                rw [h8, ← h9, hc1] at d1
                simp only [Option.some.injEq, Value.int.injEq, true_and, Value.string.injEq] at d0 d1
                exact Prod.ext (UInt8.toNat_inj.1 (by omega)) d1
              have q0 := HXX.out.1.c0
              have q1 := HXX.out.1.c1
              have hEq := fun w => opt_eq HE.out w
              have hEl := fun w => opt_eql HE.out w
              clear hb5 hc0 hc1
              go_wp2_with fail
              go_quiet (fail)
              go_wp2
              go_roundw
              case rel => exact ⟨k + 1, by omega, by go_num, HR5.out.drewN' _⟩
              case measure => simp [intOf]; omega
            · obtain rfl : k = q := by omega
              go_wp2_with fail
              refine (alive_any _).mono ?_
              rintro e w5 ⟨rfl, hb5⟩
              have HB5 := Lib.hid (HBr.out.trans (hb5.mono HBr.out.size))
              clear hb5
              go_wp2
              go_ret
              exact ⟨rfl, HB5.out⟩
      · obtain ⟨hC, ha, _⟩ := ref_of hr
        have HJ := Lib.hid (judge_at (m := (refs (vs p l)).length) HP1.out HO1.out hA (by omega) hnk hlk hC ha rfl)
        have HS := Lib.hid (gm_sub (refs_sub p l))
        have hil : (refs (vs p l)).length ≤ n := by rw [← HL.out.1]; exact (refs_sub p l).length_le
        have hpos : 0 < (refs (vs p l)).length := List.length_pos_iff.2 hr
        clear hC ha hr hnk hlk
        generalize refs (vs p l) = a at *
        obtain ⟨q, hq⟩ : ∃ q, a.length = q := ⟨_, rfl⟩
        rw [hq] at HJ hil hpos
        have HQ := Lib.hid hq
        clear hq
        go_wp2_with fail
        refine HJ.out.mono ?_
        rintro e w2 ⟨A2, c2, rfl, ho2, hp2, hm2⟩
        have HB2 := Lib.hid (HB1.out.trans (hm2.below HB1.out.size (fun k e => by rw [e]; exact HGl.out)))
        have HX2 := Lib.hid ho2
        clear ho2 hp2 hm2 HJ HO1
        go_wp2_with fail
        refine (get_row a A2 q c2 w2 HX2.out (by omega)).mono ?_
        rintro e w3 ⟨A3, c3, rfl, _, hb3⟩
        generalize Lco.gL a = y
        generalize (gO a).length = n3
        generalize gE a = e3
        unfold lv
        obtain ⟨V, hV, HV⟩ := boxL w3 y
        have HB3 : Hid (Below w.heap.size w V) := (HB2.out.trans (hb3.mono HB2.out.size)).trans (HV.out.2.1.mono (HB2.out.trans (hb3.mono HB2.out.size)).size)
        have HX3 := Lib.hid ((HX2.out.next hb3).next HV.out.2.1)
        have HL3 := Lib.hid ((HL.out.below HB3.out).more HB3.out.size)
        clear hb3 HX2 HB2
        have hn1 : (n : Int) ≤ 70 := by omega
        have hq1 : (q : Int) ≤ 70 := by omega
        have hpos1 : (0 : Int) < (q : Int) := by omega
        have hpos2 := decide_eq_true hpos1
        go_wp2_with fail
        go_loopw [17, 18] (fun u i wr => ∃ k j : Nat, k ≤ n ∧ j ≤ q ∧ i = .int .i64 k ∧ u = .int .i64 j ∧ Hid (gm (l.drop k) (a.drop j) = []) ∧ Hid (Below V.heap.size V wr)) (fun _ i _ => n - (intOf i).toNat)
        case atStart => exact ⟨0, 0, Nat.zero_le _, Nat.zero_le _, rfl, rfl, HS.out, Below.refl _ _⟩
        case round =>
          obtain ⟨k, j, hk, hj, rfl, rfl, HD, HR⟩ := hrel
          have HBr := Lib.hid (HB3.out.trans (HR.out.mono HB3.out.size))
          by_cases hlt : k < n
          · have hlt1 : (k : Int) < (n : Int) := by omega
            have hlt2 := decide_eq_true hlt1
            by_cases hjt : j < q
            · have hjt1 : (j : Int) < (q : Int) := by omega
              have hjt2 := decide_eq_true hjt1
              obtain ⟨ad, o, rfl, hB, ho, hS1, hc0, hc1⟩ := (HL3.out.below HR.out).at_ hlt
              obtain ⟨ad2, o2, rfl, hB2, ho2, hS2, hd0, hd1⟩ := (HX3.out.below HR.out).at_ hjt
              have hdl : l.drop k = o :: l.drop (k + 1) := by obtain ⟨h1, rfl⟩ := List.getElem?_eq_some_iff.1 ho; exact List.drop_eq_getElem_cons h1
              have hda : a.drop j = o2 :: a.drop (j + 1) := by obtain ⟨h1, rfl⟩ := List.getElem?_eq_some_iff.1 ho2; exact List.drop_eq_getElem_cons h1
              have hD := HD.out
              rw [hdl, hda] at hD
              unfold gm at hD
              rw [← hda] at hD
              clear ho ho2 hdl
              by_cases he : o = o2
              · rw [if_pos he] at hD
                have HD2 := Lib.hid hD
                have hEq := fun w => opt_eq (decide_eq_true he) w
                have hEl := fun w => opt_eql (decide_eq_true he) w
                clear hD hda he
                go_wp2_with fail
                go_quiet (fail)
                go_wp2
                go_roundw
                case rel => exact ⟨k + 1, j + 1, by omega, by omega, by go_num, by go_num, HD2.out, HR.out.drewN' _⟩
                case measure => simp [intOf]; omega
              · rw [if_neg he] at hD
                have HD2 := Lib.hid hD
                have hEq := fun w => opt_eq (decide_eq_false he) w
                have hEl := fun w => opt_eql (decide_eq_false he) w
                clear hD hda he
                go_wp2_with fail
                go_quiet (fail)
                go_wp2
                go_roundw
                case rel => exact ⟨k + 1, j, by omega, by omega, by go_num, by go_num, HD2.out, HR.out.drewN' _⟩
                case measure => simp [intOf]; omega
            · obtain rfl : j = q := by omega
              have hjt2 : decide ((j : Int) < (j : Int)) = false := decide_eq_false (by omega)
              go_wp2_with fail
              refine (alive_any _).mono ?_
              rintro e w5 ⟨rfl, hb5⟩
              have HB5 := Lib.hid (HBr.out.trans (hb5.mono HBr.out.size))
              clear hb5
              go_wp2
              go_ret
              exact ⟨rfl, HB5.out⟩
          · obtain rfl : k = n := by omega
            have hj0 : j = q := by
              have hD := HD.out
              rw [List.drop_of_length_le (by rw [HL.out.1]; exact Nat.le_refl _)] at hD
              have h1 : a.drop j = [] := by
                cases h : a.drop j with
                | nil => rfl
                | cons x r => rw [h] at hD; unfold gm at hD; cases hD
              have := List.drop_eq_nil_iff.1 h1
              rw [HQ.out] at this
              omega
            subst hj0
            go_wp2_with fail
            refine (alive_any _).mono ?_
            rintro e w5 ⟨rfl, hb5⟩
            have HB5 := Lib.hid (HBr.out.trans (hb5.mono HBr.out.size))
            clear hb5
            go_wp2
            go_ret
            exact ⟨rfl, HB5.out⟩
  · clear hb HG hn
    go_wp2_with fail
    refine (alive_any _).mono ?_
    rintro e w2 ⟨rfl, hb2⟩
    have HB2 := Lib.hid (HB.out.trans (hb2.mono HB.out.size))
    clear hb2
    go_wp2
    go_ret
    exact ⟨rfl, HB2.out⟩

set_option maxRecDepth 100000 in
theorem lifted (os : Os) (started : os.Started) (H : Type) (enc : TypeId × Value → H) :
    ReturnsInHanded {} Try.checked os 3 .any (Rows.lcppolPartsSpec.pre6 enc Try.prog Try.f3 Rows.lcppolPartsRow.domain false) (Rows.lcppolPartsSpec.post enc Try.prog Try.f3 false true false false) := by
  refine returnsInHanded_of_change_sized (C := Try.checked) own started (by kernel_rfl) Try.func3
    (ChangeSpec.witness6 (enc := enc) (C := Try.checked) false ⟨#[], #[.agg #[.int .u16 0, .bool false, .int .u32 0, .int .u8 0, .int .u8 0, .int .u8 0, .bool false, .bool false, .bool false, .int .i64 0], .int .u32 0, .slice none 0 0], []⟩ 8 (by kernel_rfl) (by kernel_rfl) (by kernel_rfl) (by kernel_rfl)) ?_
  intro W base args ds gs before hval0 hW hcnd hsz0 _
  have hsz : (DataW.weightsEach Try.prog (Try.f3.params.toList ++ Rows.lcppolPartsSpec.plain.varTypes Try.prog) (ds ++ gs)).all (· ≤ reachBytes) = true := hsz0
  have hval : ∀ (j : Nat) t v, Try.f3.params[j]? = some t → args[j]? = some v → Value.okWide Try.prog W .any base t v := hval0
  have hW' := hW
  obtain ⟨p, q, hA0, hV, rfl, hfz, hnd⟩ := hW
  have hlt := hW'.lt
  have hA : DataW.TrodAll enc Try.prog W 0 (fun _ => true) true Try.f3.params.toList args.toList ds p := hA0
  rw [Try.params3] at hA hval hsz
  obtain ⟨v0, vs0, d0, ds0, p0, q0, hargs, rfl, rfl, h0, r0⟩ := trodAll_cons hA
  obtain ⟨v1, vs1, d1, ds1, p1, q1, rfl, rfl, rfl, h1, r1⟩ := trodAll_cons r0
  obtain ⟨v2, vs2, d2, ds2, p2, q2, rfl, rfl, rfl, h2, r2⟩ := trodAll_cons r1
  obtain ⟨rfl, rfl, rfl⟩ := trodAll_nil r2
  obtain rfl : args = #[v0, v1, v2] := by cases args; simp_all
  obtain ⟨rfl, rfl⟩ := trodVars_none hV
  obtain ⟨a0, rfl⟩ := conf_of Try.underlying25 (by kernel_rfl) (by kernel_rfl) Try.underlying22 Try.underlying4 Try.underlying23 Try.underlying5 Try.underlying5 Try.underlying5 Try.underlying4 Try.underlying4 Try.underlying4 Try.underlying3 (hval 0 25 v0 rfl rfl) h0
  obtain ⟨z1, rfl, rfl, rfl, w1⟩ := open_int Try.underlying23 (hval 1 23 v1 rfl rfl) h1
  obtain ⟨a1, rfl⟩ := u32_of (z := z1) (bounds_u32 w1)
  obtain ⟨A2, n2, c2, rfl, m2, hA2, l2, hO2⟩ := opts_of Try.underlying26 Try.underlying41 (by kernel_rfl) (by kernel_rfl) Try.underlying5 Try.underlying9 (hval 2 26 v2 rfl rfl) h2 (fun n hn => of_decide_eq_true (List.all_eq_true.1 hsz n (DataW.weights_mem_each (j := 2) (t := 26) rfl rfl n hn)))
  clear hA0 hval0 hsz0
  exact (walk a0 a1 A2 n2 c2 l2 W m2 hA2 hO2).mono fun e W' ⟨he, hb⟩ => ⟨_, he, law_post (t := 4) laidOut (by kernel_rfl) rfl rfl Try.underlying4 ⟨rfl, rfl, rfl⟩ hW' hb⟩

theorem over : Rows.lcppolPartsRow.holds Try.pinned (OpenSpec.ofChange Rows.lcppolPartsSpec) :=
  OpenClaim.holds_of_wide 3 Try.f3 rfl rfl rfl rfl rfl rfl rfl ⟨rfl, rfl, rfl, rfl, rfl⟩ rfl rfl rfl rfl rfl (by kernel_rfl) Try.func3 (by kernel_rfl)
    (of_decide_eq_true (by kernel_rfl)) (by unfold Func.isWrapper; first | (rw [if_pos (by decide +kernel)]; kernel_rfl) | (rw [if_neg (by decide +kernel)]; exact ⟨rfl, rfl⟩))
    (fun os started H enc _ => lifted os started H enc)

theorem proved : Rows.LcppolPartsSaid :=
  over
#print axioms proved
end Go.Proofs.Ytgoikabbocnecaa.LcppolParts
