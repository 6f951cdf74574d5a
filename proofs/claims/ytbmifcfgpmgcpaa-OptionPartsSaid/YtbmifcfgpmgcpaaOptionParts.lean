/- PROVED: 'halyardlaw08.OptionParts' returns true for every row and every type, and leaves them as they were. No condition. -/
import Derived.Test.YtbmifcfgpmgcpaaOptK
import Derived.Test.YtbmifcfgpmgcpaaLaw
import Derived.Test.YtbmifcfgpmgcpaaRows
import Derived.SizedLaws
import Derived.Deep.QuietTactic
import Derived.Deep.Quiet
import Derived.BigQuiet
namespace Go.Proofs.Ytbmifcfgpmgcpaa.OptionParts
open Go.ChangeShapes Go.WideShapes Go.ChangeAt Go.RowKit Go.Proofs.Ytbmifcfgpmgcpaa.Oct Go.Proofs.Ytbmifcfgpmgcpaa.Row Go.Proofs.Ytbmifcfgpmgcpaa.Mem Go.Proofs.Ytbmifcfgpmgcpaa.Opt Go.Proofs.Ytbmifcfgpmgcpaa.Law
open Go.ChangeMaps (open_string shut_string)

theorem wo_at {t : UInt8} {l : List Opt} {j : Nat} {o : Opt} (h : l[j]? = some o) (hne : ¬ o.1 = t) : (wo t l)[(wo t (l.take j)).length]? = some o := by
  obtain ⟨hj, rfl⟩ := List.getElem?_eq_some_iff.1 h
  have hd : wo t l = wo t (l.take j) ++ (l[j] :: wo t (l.drop (j + 1))) := by
    conv => lhs; rw [← List.take_append_drop j l]
    unfold wo
    rw [List.filter_append, List.drop_eq_getElem_cons hj, List.filter_cons_of_pos (by simpa using hne)]
  rw [hd, List.getElem?_append_right (Nat.le_refl _), Nat.sub_self]
  rfl
theorem fd_step {t : UInt8} {l : List Opt} {j : Nat} {o : Opt} (h : l[j]? = some o) : (fd t (l.take (j + 1))).isNone = ((fd t (l.take j)).isNone && !(o.1 == t)) := by
  obtain ⟨hj, rfl⟩ := List.getElem?_eq_some_iff.1 h
  unfold fd
  rw [List.take_succ_eq_append_getElem hj, List.find?_append]
  cases h1 : List.find? (fun o => o.1 == t) (l.take j) with
  | some x => rfl
  | none =>
    cases h2 : (l[j].1 == t)
    · rw [List.find?_cons_of_neg (by rw [h2]; simp)]; rfl
    · simp [h2]
theorem fd_no {t : UInt8} {l : List Opt} {j : Nat} {o : Opt} (h : l[j]? = some o) (hn : fd t l = none) : ¬ o.1 = t := by
  intro e
  have := List.find?_eq_none.1 hn o (List.mem_of_getElem? h)
  simp [e] at this
set_option maxHeartbeats 4000000 in
set_option maxRecDepth 100000 in
theorem walk (A : Option Addr) (n c : Nat) (l : List Opt) (t : UInt8) (hn : n ≤ maxLen) (w : World) (hl : Opts w w.heap.size A n l) :
    Calls Try.prog 6 #[.slice A n c, .int .u8 t.toNat] w fun e w' => e = .returned (.bool true) ∧ Below w.heap.size w w' := by
  have HH := Lib.hid (Below.refl w.heap.size w)
  have HL := Lib.hid hl
  have Hll := Lib.hid hl.1
  clear hl
  go_enter Try.func6, Try.ntmps6
  go_wp2_with fail
  refine (long_row l A n c _ HL.out hn).mono ?_
  rintro e w' ⟨b, rfl, hq1, rfl⟩
  cases b
  case true =>
    clear hq1
    go_wp2_with fail
    refine (alive_any _).mono ?_
    rintro e w1 ⟨rfl, hb1⟩
    have HL := Lib.hid (HL.out.next hb1)
    have HH := Lib.hid (HH.out.trans (hb1.mono HH.out.size))
    clear hb1
    go_wp2
    go_ret
    exact ⟨rfl, HH.out⟩
  case false =>
    obtain ⟨hn70, hd⟩ := hq1 rfl
    clear hq1 hd
    have hwl : (wo t l).length ≤ 70 := by have := wo_le t l; have := Hll.out; omega
    rcases hf : fd t l with _ | o0
    · have HF := Lib.hid (fAB_none hf)
      have Hf := Lib.hid hf
      clear hf
      have F1 := Lib.hid (fun w h => find_row t l A n c w h hn)
      rw [HF.out.1, HF.out.2] at F1
      go_wp2_with fail
      refine (without_row t l A n c _ HL.out (by omega)).mono ?_
      rintro e w1 ⟨A1, c1, rfl, hO1, hb1⟩
      have HL := Lib.hid (HL.out.next hb1)
      have HH := Lib.hid (HH.out.trans (hb1.mono HH.out.size))
      clear hb1
      have HX := Lib.hid hO1
      clear hO1
      go_wp2_with fail
      refine (F1.out _ HL.out).mono ?_
      rintro e w2 ⟨rfl, hb2⟩
      have HL := Lib.hid (HL.out.next hb2)
      have HX := Lib.hid (HX.out.next hb2)
      have HH := Lib.hid (HH.out.trans (hb2.mono HH.out.size))
      clear hb2
      have HL := Lib.hid (HL.out.laid (.cells #[.int .u8 ((0 : UInt8), ByteArray.empty).1.toNat, .string ((0 : UInt8), ByteArray.empty).2] 32))
      have HX := Lib.hid (HX.out.laid (.cells #[.int .u8 ((0 : UInt8), ByteArray.empty).1.toNat, .string ((0 : UInt8), ByteArray.empty).2] 32))
      have HP := Lib.hid (at_new w2 ((0 : UInt8), ByteArray.empty).1 ((0 : UInt8), ByteArray.empty).2)
      have HH := Lib.hid (HH.out.alloc HH.out.size (.cells #[.int .u8 ((0 : UInt8), ByteArray.empty).1.toNat, .string ((0 : UInt8), ByteArray.empty).2] 32))
      go_wp2
      obtain ⟨V, hV⟩ : ∃ V, w2.alloc (.cells #[.int .u8 0, .string ByteArray.empty] 32) = V := ⟨_, rfl⟩
      have HL2 : Hid (Opts V V.heap.size A n l) := by rw [← hV]; exact HL.out
      have HX2 : Hid (Opts V V.heap.size A1 (wo t l).length (wo t l)) := by rw [← hV]; exact HX.out
      have HP2 : Hid (At V w2.heap.size ((0 : UInt8), ByteArray.empty)) := by rw [← hV]; exact HP.out
      have HH2 : Hid (Below w.heap.size w V) := by rw [← hV]; exact HH.out
      first | rw [hV] | (rw [show (w2.alloc (.cells #[.int .u8 0, .string ⟨#[]⟩] 32)) = V from hV])
      clear hV HL HX HP HH
      generalize w2.heap.size = g at *
      generalize hq : (wo t l).length = q at *
      have Hq := Lib.hid hq
      clear hq
      go_loopw [8, 9, 10] (fun kk ff ii wr => ∃ (j k : Nat), j ≤ n ∧ ii = .int .i64 j ∧ kk = .int .i64 k ∧ ff = .bool true ∧ k ≤ j ∧ Hid (k = (wo t (l.take j)).length) ∧ Hid (Below V.heap.size V wr)) (fun _ _ i _ => n - (intOf i).toNat)
      case atStart => exact ⟨0, 0, Nat.zero_le _, rfl, rfl, rfl, Nat.le_refl _, (rfl : 0 = 0), (Below.refl _ _ : Below V.heap.size V V)⟩
      case round =>
        obtain ⟨j, k, hj, rfl, rfl, rfl, hkj, HK, hbv⟩ := hrel
        have HBV := Lib.hid hbv.out
        clear hbv
        by_cases hlt : j < n
        · obtain ⟨ad, o, rfl, hB, ho, hS1, hc0, hc1⟩ := (HL2.out.below HBV.out).at_ hlt
          have e1 := fd_no ho Hf.out
          have HST := Lib.hid ((wo_step (t := t) ho).2 e1)
          have hx1 := no_byte e1
          have hat := wo_at ho e1
          rw [← HK.out] at hat
          have hkq : k < q := by rw [← Hq.out]; exact (List.getElem?_eq_some_iff.1 hat).1
          obtain ⟨ad2, o2, rfl, hB2, ho2, hS2, hd0, hd1⟩ := (HX2.out.below HBV.out).at_ hkq
          obtain rfl : o = o2 := by rw [hat] at ho2; exact Option.some.inj ho2
          have hx2 := beq_self o.2
          have hx3 : ((o.1.toNat : Int) == (o.1.toNat : Int)) = true := by simp
          have hx4 : ¬ (q : Int) ≤ (k : Int) := by omega
          have hx5 : decide ((q : Int) ≤ (k : Int)) = false := decide_eq_false hx4
          clear ho ho2 hat e1
          go_wp2
          go_quiet (fail)
          go_wp2
          go_roundw
          case rel => exact ⟨j + 1, k + 1, by omega, by go_num, by go_num, rfl, by omega, (by show _ = _; rw [HST.out, List.length_append, ← HK.out]; rfl), HBV.out.drewN' _⟩
          case measure => simp [intOf]; omega
        · obtain rfl : j = n := by omega
          have HE : Hid (k = q) := by
            have h := HK.out
            rw [List.take_of_length_le (by rw [Hll.out]; exact Nat.le_refl _), Hq.out] at h
            exact h
          obtain rfl : k = q := HE.out
          have HZ := Lib.hid (HH2.out.trans (HBV.out.mono HH2.out.size))
          have hx6 : ((k : Int) == (k : Int)) = true := by simp
          go_wp2_with fail
          refine (alive_any _).mono ?_
          rintro e w9 ⟨rfl, hb9⟩
          have HZ9 := Lib.hid (HZ.out.trans (hb9.mono HZ.out.size))
          clear hb9
          go_wp2
          go_ret
          exact ⟨rfl, HZ9.out⟩
    · have HF := Lib.hid (fAB_some hf)
      have Hf := Lib.hid hf
      clear hf
      have F1 := Lib.hid (fun w h => find_row t l A n c w h hn)
      rw [HF.out.1, HF.out.2] at F1
      go_wp2_with fail
      refine (without_row t l A n c _ HL.out (by omega)).mono ?_
      rintro e w1 ⟨A1, c1, rfl, hO1, hb1⟩
      have HL := Lib.hid (HL.out.next hb1)
      have HH := Lib.hid (HH.out.trans (hb1.mono HH.out.size))
      clear hb1
      have HX := Lib.hid hO1
      clear hO1
      go_wp2_with fail
      refine (F1.out _ HL.out).mono ?_
      rintro e w2 ⟨rfl, hb2⟩
      have HL := Lib.hid (HL.out.next hb2)
      have HX := Lib.hid (HX.out.next hb2)
      have HH := Lib.hid (HH.out.trans (hb2.mono HH.out.size))
      clear hb2
      have HL := Lib.hid (HL.out.laid (.cells #[.int .u8 o0.1.toNat, .string o0.2] 32))
      have HX := Lib.hid (HX.out.laid (.cells #[.int .u8 o0.1.toNat, .string o0.2] 32))
      have HP := Lib.hid (at_new w2 o0.1 o0.2)
      have HH := Lib.hid (HH.out.alloc HH.out.size (.cells #[.int .u8 o0.1.toNat, .string o0.2] 32))
      go_wp2
      obtain ⟨V, hV⟩ : ∃ V, w2.alloc (.cells #[.int .u8 o0.1.toNat, .string o0.2] 32) = V := ⟨_, rfl⟩
      have HL2 : Hid (Opts V V.heap.size A n l) := by rw [← hV]; exact HL.out
      have HX2 : Hid (Opts V V.heap.size A1 (wo t l).length (wo t l)) := by rw [← hV]; exact HX.out
      have HP2 : Hid (At V w2.heap.size o0) := by rw [← hV]; exact HP.out
      have HH2 : Hid (Below w.heap.size w V) := by rw [← hV]; exact HH.out
      rw [hV]
      clear hV HL HX HP HH
      generalize w2.heap.size = g at *
      generalize hq : (wo t l).length = q at *
      have Hq := Lib.hid hq
      clear hq
      go_loopw [8, 9, 10] (fun kk ff ii wr => ∃ (j k : Nat) (f : Bool), j ≤ n ∧ ii = .int .i64 j ∧ kk = .int .i64 k ∧ ff = .bool f ∧ k ≤ j ∧ Hid (k = (wo t (l.take j)).length ∧ f = (fd t (l.take j)).isNone) ∧ Hid (Below V.heap.size V wr)) (fun _ _ i _ => n - (intOf i).toNat)
      case atStart => exact ⟨0, 0, true, Nat.zero_le _, rfl, rfl, rfl, Nat.le_refl _, ⟨rfl, rfl⟩, (Below.refl _ _ : Below V.heap.size V V)⟩
      case round =>
        obtain ⟨j, k, f, hj, rfl, rfl, rfl, hkj, HK, hbv⟩ := hrel
        have HBV := Lib.hid hbv.out
        clear hbv
        by_cases hlt : j < n
        · obtain ⟨ad, o, rfl, hB, ho, hS1, hc0, hc1⟩ := (HL2.out.below HBV.out).at_ hlt
          by_cases e1 : o.1 = t
          · have HST := Lib.hid ((wo_step (t := t) ho).1 e1)
            have hx1 : ((o.1.toNat : Int) == (t.toNat : Int)) = true := by rw [e1]; simp
            have HFS : Hid ((fd t (l.take (j + 1))).isNone = false) := by show _ = _; rw [fd_step ho, show (o.1 == t) = true by simp [e1]]; simp
            cases f
            · clear ho e1
              go_wp2
              go_quiet (fail)
              go_wp2
              go_roundw
              case rel => exact ⟨j + 1, k, false, by omega, by go_num, rfl, rfl, by omega, ⟨by rw [HST.out]; exact HK.out.1, HFS.out.symm⟩, HBV.out.drewN' _⟩
              case measure => simp [intOf]; omega
            · obtain rfl : o0 = o := by have h := (fd_take ho (by have := HK.out.2; simpa using this.symm)).1 e1; rw [Hf.out] at h; exact Option.some.inj h
              have hPr := HP2.out.callee HBV.out
              have p0 := hPr.c0
              have p1 := hPr.c1
              have hx2 := beq_self o0.2
              have hx3 : ((o0.1.toNat : Int) == (o0.1.toNat : Int)) = true := by simp
              clear ho e1 hPr
              go_wp2
              go_quiet (fail)
              go_wp2
              go_roundw
              case rel => exact ⟨j + 1, k, false, by omega, by go_num, rfl, rfl, by omega, ⟨by rw [HST.out]; exact HK.out.1, HFS.out.symm⟩, HBV.out.drewN' _⟩
              case measure => simp [intOf]; omega
          · have HST := Lib.hid ((wo_step (t := t) ho).2 e1)
            have hx1 := no_byte e1
            have hat := wo_at ho e1
            rw [← HK.out.1] at hat
            have HFS : Hid ((fd t (l.take (j + 1))).isNone = (fd t (l.take j)).isNone) := by show _ = _; rw [fd_step ho, show (o.1 == t) = false by simpa using e1]; simp
            have hkq : k < q := by rw [← Hq.out]; exact (List.getElem?_eq_some_iff.1 hat).1
            obtain ⟨ad2, o2, rfl, hB2, ho2, hS2, hd0, hd1⟩ := (HX2.out.below HBV.out).at_ hkq
            obtain rfl : o = o2 := by rw [hat] at ho2; exact Option.some.inj ho2
            have hx2 := beq_self o.2
            have hx3 : ((o.1.toNat : Int) == (o.1.toNat : Int)) = true := by simp
            have hx4 : ¬ (q : Int) ≤ (k : Int) := by omega
            have hx5 : decide ((q : Int) ≤ (k : Int)) = false := decide_eq_false hx4
            clear ho ho2 hat e1
            go_wp2
            go_quiet (fail)
            go_wp2
            go_roundw
            case rel => exact ⟨j + 1, k + 1, _, by omega, by go_num, by go_num, rfl, by omega, ⟨by rw [HST.out, List.length_append, ← HK.out.1]; rfl, by rw [HFS.out]; exact HK.out.2⟩, HBV.out.drewN' _⟩
            case measure => simp [intOf]; omega
        · obtain rfl : j = n := by omega
          have HE : Hid (k = q ∧ f = false) := by
            have h := HK.out
            rw [List.take_of_length_le (by rw [Hll.out]; exact Nat.le_refl _), Hq.out, Hf.out] at h
            exact h
          obtain ⟨rfl, rfl⟩ : k = q ∧ f = false := HE.out
          have HZ := Lib.hid (HH2.out.trans (HBV.out.mono HH2.out.size))
          have hx6 : ((k : Int) == (k : Int)) = true := by simp
          go_wp2_with fail
          refine (alive_any _).mono ?_
          rintro e w9 ⟨rfl, hb9⟩
          have HZ9 := Lib.hid (HZ.out.trans (hb9.mono HZ.out.size))
          clear hb9
          go_wp2
          go_ret
          exact ⟨rfl, HZ9.out⟩

set_option maxRecDepth 100000 in
theorem lifted (os : Os) (started : os.Started) (H : Type) (enc : TypeId × Value → H) :
    ReturnsInHanded {} Try.checked os 6 .any (Rows.optionPartsSpec.pre6 enc Try.prog Try.f6 Rows.optionPartsRow.domain false) (Rows.optionPartsSpec.post enc Try.prog Try.f6 false true false false) := by
  refine returnsInHanded_of_change_sized (C := Try.checked) own started (by kernel_rfl) Try.func6
    (ChangeSpec.witness6 (enc := enc) (C := Try.checked) false ⟨#[], #[.slice none 0 0, .int .u8 0], []⟩ 8 (by kernel_rfl) (by kernel_rfl) (by kernel_rfl) (by kernel_rfl)) ?_
  intro W base args ds gs before hval0 hW hcnd hsz0 _
  have hsz : (DataW.weightsEach Try.prog (Try.f6.params.toList ++ Rows.optionPartsSpec.plain.varTypes Try.prog) (ds ++ gs)).all (· ≤ reachBytes) = true := hsz0
  have hval : ∀ (j : Nat) t v, Try.f6.params[j]? = some t → args[j]? = some v → Value.okWide Try.prog W .any base t v := hval0
  have hW' := hW
  obtain ⟨p, q, hA0, hV, rfl, hfz, hnd⟩ := hW
  have hlt := hW'.lt
  have hA : DataW.TrodAll enc Try.prog W 0 (fun _ => true) true Try.f6.params.toList args.toList ds p := hA0
  rw [Try.params6] at hA hval hsz
  obtain ⟨v0, vs0, d0, ds0, p0, q0, hargs, rfl, rfl, h0, r0⟩ := trodAll_cons hA
  obtain ⟨v1, vs1, d1, ds1, p1, q1, rfl, rfl, rfl, h1, r1⟩ := trodAll_cons r0
  obtain ⟨rfl, rfl, rfl⟩ := trodAll_nil r1
  obtain rfl : args = #[v0, v1] := by cases args; simp_all
  obtain ⟨rfl, rfl⟩ := trodVars_none hV
  obtain ⟨A0, n0, c0, rfl, m0, hA0, l0, hO0⟩ := opts_of Try.underlying22 Try.underlying32 (by kernel_rfl) (by kernel_rfl) Try.underlying5 Try.underlying9 (hval 0 22 v0 rfl rfl) h0 (fun n hn => of_decide_eq_true (List.all_eq_true.1 hsz n (DataW.weights_mem_each (j := 0) (t := 22) rfl rfl n hn)))
  obtain ⟨z1, rfl, rfl, rfl, w1⟩ := open_int Try.underlying5 (hval 1 5 v1 rfl rfl) h1
  have b1 := bounds_u8 w1
  obtain ⟨a1, rfl⟩ := u8_of (z := z1) (by omega) (by omega)
  clear hA0 hval0 hsz0
  exact (walk A0 n0 c0 l0 a1 m0 W hO0).mono fun e W' ⟨he, hb⟩ => ⟨_, he, law_post (t := 4) laidOut (by kernel_rfl) rfl rfl Try.underlying4 ⟨rfl, rfl, rfl⟩ hW' hb⟩

theorem over : Rows.optionPartsRow.holds Try.pinned (OpenSpec.ofChange Rows.optionPartsSpec) :=
  OpenClaim.holds_of_wide 6 Try.f6 rfl rfl rfl rfl rfl rfl rfl ⟨rfl, rfl, rfl, rfl, rfl⟩ rfl rfl rfl rfl rfl (by kernel_rfl) Try.func6 (by kernel_rfl)
    (of_decide_eq_true (by kernel_rfl)) (by unfold Func.isWrapper; first | (rw [if_pos (by decide +kernel)]; kernel_rfl) | (rw [if_neg (by decide +kernel)]; exact ⟨rfl, rfl⟩))
    (fun os started H enc _ => lifted os started H enc)

theorem proved : Rows.OptionPartsSaid :=
  over
#print axioms proved
end Go.Proofs.Ytbmifcfgpmgcpaa.OptionParts
