/- PROVED: 'halyardlaw11.RejectFits' returns true for every packet, every text, every protocol and every two numbers, and leaves them as they were. No condition. -/
import Derived.Test.YtfcndljbijcbkaaRejF
import Derived.Test.YtfcndljbijcbkaaPk3
import Derived.Test.YtfcndljbijcbkaaLaw
import Derived.Test.YtfcndljbijcbkaaRows
import Derived.SizedLaws
namespace Go.Proofs.Ytfcndljbijcbkaa.RejectFits
open Go.ChangeShapes Go.WideShapes Go.ChangeAt Go.RowKit Go.Proofs.Ytfcndljbijcbkaa.Oct Go.Proofs.Ytfcndljbijcbkaa.Row Go.Proofs.Ytfcndljbijcbkaa.Pkt Go.Proofs.Ytfcndljbijcbkaa.Rej Go.Proofs.Ytfcndljbijcbkaa.Mem Go.Proofs.Ytfcndljbijcbkaa.Law
open Go.ChangeMaps (open_string shut_string)

theorem may_low {q : Nat} (h : q < 64) : may q = false := by
  unfold may
  rw [decide_eq_false (by omega)]; rfl
theorem fit_size (l : List UInt8) (c i : UInt8) (q : Nat) (h : 64 ≤ q) : (bOf (enc c i (bOf (l.take (sp q))).toList)).size ≤ q ∧ (bOf (enc c i (bOf (l.take (sp q))).toList)).size ≤ 1500 := by
  have h1 := List.length_take_le (sp q) l
  have h2 : sp q ≤ q - 4 ∧ sp q ≤ 1496 := ⟨Nat.min_le_left _ _, Nat.min_le_right _ _⟩
  rw [size_bOf, enc_length, toList_bOf]
  omega
theorem fit_proto (id : UInt8) (p : Nat) (s : ByteArray) (q : Nat) (hp : p < 65536) (hq0 : 64 ≤ q) (hq1 : q ≤ 65535) (hs : s.size ≤ 1048576) : ∃ DB X : ByteArray, (X.size : Int) ≤ q ∧ (X.size : Int) ≤ 1500 ∧
    (∀ w, Calls Try.prog 8 #[.int .u8 id.toNat, .int .u16 p, .string s, .int .i64 q] w fun x w' => x = .returned (.tuple #[.agg #[.int .u8 8, .int .u8 id.toNat, .string DB], .int .i64 0]) ∧ Below w.heap.size w w') ∧
    (∀ w, Calls Try.prog 17 #[.agg #[.int .u8 8, .int .u8 id.toNat, .string DB]] w fun x w' => x = .returned (.tuple #[.string X, .int .i64 0]) ∧ Below w.heap.size w w') := by
  have hz := fit_size (numS p 2 ++ s.toList) 8 id q hq0
  refine ⟨_, _, by have := hz.1; omega, by have := hz.2; omega, fun w => proto_ok id p s q w hp hq0 hq1 (by unfold maxLen; omega), fun w => put_ok 8 id _ w ?_⟩
  rw [size_bOf]
  exact Nat.le_trans (List.length_take_le _ _) (sp_le q)
theorem fit_code (id c i : UInt8) (d : ByteArray) (q : Nat) (hq0 : 64 ≤ q) (hq1 : q ≤ 65535) (hd : d.size ≤ 1496) : ∃ DB X : ByteArray, (X.size : Int) ≤ q ∧ (X.size : Int) ≤ 1500 ∧
    (∀ w, Calls Try.prog 7 #[.int .u8 id.toNat, .agg #[.int .u8 c.toNat, .int .u8 i.toNat, .string d], .int .i64 q] w fun x w' => x = .returned (.tuple #[.agg #[.int .u8 7, .int .u8 id.toNat, .string DB], .int .i64 0]) ∧ Below w.heap.size w w') ∧
    (∀ w, Calls Try.prog 17 #[.agg #[.int .u8 7, .int .u8 id.toNat, .string DB]] w fun x w' => x = .returned (.tuple #[.string X, .int .i64 0]) ∧ Below w.heap.size w w') := by
  have hz := fit_size (enc c i d.toList) 7 id q hq0
  refine ⟨_, _, by have := hz.1; omega, by have := hz.2; omega, fun w => code_ok id c i d q w hq0 hq1 hd, fun w => put_ok 7 id _ w ?_⟩
  rw [size_bOf]
  exact Nat.le_trans (List.length_take_le _ _) (sp_le q)
set_option maxHeartbeats 4000000 in
set_option maxRecDepth 100000 in
theorem walk (id c i : UInt8) (d s : ByteArray) (p q : Nat) (hp : p < 65536) (hq : q < 65536) (hd : d.size ≤ 140737488351232) (hs : s.size ≤ 140737488351232) (w : World) :
    Calls Try.prog 4 #[.int .u8 id.toNat, .agg #[.int .u8 c.toNat, .int .u8 i.toNat, .string d], .int .u16 p, .string s, .int .u16 q] w fun e w' => e = .returned (.bool true) ∧ Below w.heap.size w w' := by
  have b1 : (0 : Int) ≤ q := by omega
  have b2 : (q : Int) ≤ 65535 := by omega
  by_cases h : 16384 < (d.size : Int) + (s.size : Int)
  · have HH0 := Lib.hid (Below.refl w.heap.size w)
    have HP := Lib.hid (at_new w c i d : At (w.alloc (.cells #[.int .u8 c.toNat, .int .u8 i.toNat, .string d] 23)) w.heap.size c i d)
    have HH0 := Lib.hid (HH0.out.alloc HH0.out.size _ : Below w.heap.size w (w.alloc (.cells #[.int .u8 c.toNat, .int .u8 i.toNat, .string d] 23)))
    go_enter Try.func4, Try.ntmps4
    go_wp2_with fail
    refine (alive_any _).mono ?_
    rintro e w1 ⟨rfl, hb1⟩
    have HP := Lib.hid (HP.out.callee hb1)
    have HH1 := Lib.hid (HH0.out.trans (hb1.mono HH0.out.size))
    clear hb1
    go_wp2
    go_ret
    exact ⟨rfl, HH1.out⟩
  · by_cases hl : q < 64
    · have HH0 := Lib.hid (Below.refl w.heap.size w)
      have HP := Lib.hid (at_new w c i d : At (w.alloc (.cells #[.int .u8 c.toNat, .int .u8 i.toNat, .string d] 23)) w.heap.size c i d)
      have HH0 := Lib.hid (HH0.out.alloc HH0.out.size _ : Below w.heap.size w (w.alloc (.cells #[.int .u8 c.toNat, .int .u8 i.toNat, .string d] 23)))
      have C1 := Lib.hid (fun w => code_bad id c i d q w (may_low hl))
      have P1 := Lib.hid (fun w => proto_bad id p s q w (may_low hl))
      have hl1 : (q : Int) < 64 := by omega
      clear hp hq hl
      go_enter Try.func4, Try.ntmps4
      go_wp2_with fail
      refine (C1.out _).mono ?_
      rintro e w1 ⟨rfl, hb1⟩
      have HP := Lib.hid (HP.out.callee hb1)
      have HH1 := Lib.hid (HH0.out.trans (hb1.mono HH0.out.size))
      clear hb1
      have HP := Lib.hid (HP.out.alloc _ : At (w1.alloc (.cells #[.int .u8 0, .int .u8 0, .string ⟨#[]⟩] 23)) w.heap.size c i d)
      have HA := Lib.hid (at_new w1 (0 : UInt8) (0 : UInt8) ⟨#[]⟩ : At (w1.alloc (.cells #[.int .u8 0, .int .u8 0, .string ⟨#[]⟩] 23)) w1.heap.size (0 : UInt8) (0 : UInt8) ⟨#[]⟩)
      have HH1 := Lib.hid (HH1.out.alloc HH1.out.size _ : Below w.heap.size w (w1.alloc (.cells #[.int .u8 0, .int .u8 0, .string ⟨#[]⟩] 23)))
      go_wp2_with fail
      refine (P1.out _).mono ?_
      rintro e w2 ⟨rfl, hb2⟩
      have HP := Lib.hid (HP.out.callee hb2)
      have HA := Lib.hid (HA.out.callee hb2)
      have HH2 := Lib.hid (HH1.out.trans (hb2.mono HH1.out.size))
      clear hb2
      have HP := Lib.hid (HP.out.alloc _ : At (w2.alloc (.cells #[.int .u8 0, .int .u8 0, .string ⟨#[]⟩] 23)) w.heap.size c i d)
      have HA := Lib.hid (HA.out.alloc _ : At (w2.alloc (.cells #[.int .u8 0, .int .u8 0, .string ⟨#[]⟩] 23)) w1.heap.size (0 : UInt8) (0 : UInt8) ⟨#[]⟩)
      have HB := Lib.hid (at_new w2 (0 : UInt8) (0 : UInt8) ⟨#[]⟩ : At (w2.alloc (.cells #[.int .u8 0, .int .u8 0, .string ⟨#[]⟩] 23)) w2.heap.size (0 : UInt8) (0 : UInt8) ⟨#[]⟩)
      have HH2 := Lib.hid (HH2.out.alloc HH2.out.size _ : Below w.heap.size w (w2.alloc (.cells #[.int .u8 0, .int .u8 0, .string ⟨#[]⟩] 23)))
      go_wp2_with fail
      refine (alive_any _).mono ?_
      rintro e w3 ⟨rfl, hb3⟩
      have HP := Lib.hid (HP.out.callee hb3)
      have HA := Lib.hid (HA.out.callee hb3)
      have HB := Lib.hid (HB.out.callee hb3)
      have HH3 := Lib.hid (HH2.out.trans (hb3.mono HH2.out.size))
      clear hb3
      go_wp2
      go_ret
      exact ⟨rfl, HH3.out⟩
    · by_cases hdl : 1496 < d.size
      · have HH0 := Lib.hid (Below.refl w.heap.size w)
        have HP := Lib.hid (at_new w c i d : At (w.alloc (.cells #[.int .u8 c.toNat, .int .u8 i.toNat, .string d] 23)) w.heap.size c i d)
        have HH0 := Lib.hid (HH0.out.alloc HH0.out.size _ : Below w.heap.size w (w.alloc (.cells #[.int .u8 c.toNat, .int .u8 i.toNat, .string d] 23)))
        obtain ⟨DB, X, hx1, hx2, hP1, hX1⟩ := fit_proto id p s q hp (by omega) (by omega) (by omega)
        have P1 := Lib.hid hP1
        have X1 := Lib.hid hX1
        have C1 := Lib.hid (fun w => code_long id c i d q w (may_yes (by omega) (by omega)) (by omega))
        have hd1 : decide ((d.size : Int) ≤ 1496) = false := decide_eq_false (by omega)
        have hl1 : ¬ (q : Int) < 64 := by omega
        clear hp hq hl hP1 hX1
        go_enter Try.func4, Try.ntmps4
        go_wp2_with fail
        refine (C1.out _).mono ?_
        rintro e w1 ⟨rfl, hb1⟩
        have HP := Lib.hid (HP.out.callee hb1)
        have HH1 := Lib.hid (HH0.out.trans (hb1.mono HH0.out.size))
        clear hb1
        have HP := Lib.hid (HP.out.alloc _ : At (w1.alloc (.cells #[.int .u8 0, .int .u8 0, .string ⟨#[]⟩] 23)) w.heap.size c i d)
        have HA := Lib.hid (at_new w1 (0 : UInt8) (0 : UInt8) ⟨#[]⟩ : At (w1.alloc (.cells #[.int .u8 0, .int .u8 0, .string ⟨#[]⟩] 23)) w1.heap.size (0 : UInt8) (0 : UInt8) ⟨#[]⟩)
        have HH1 := Lib.hid (HH1.out.alloc HH1.out.size _ : Below w.heap.size w (w1.alloc (.cells #[.int .u8 0, .int .u8 0, .string ⟨#[]⟩] 23)))
        go_wp2_with fail
        refine (P1.out _).mono ?_
        rintro e w2 ⟨rfl, hb2⟩
        have HP := Lib.hid (HP.out.callee hb2)
        have HA := Lib.hid (HA.out.callee hb2)
        have HH2 := Lib.hid (HH1.out.trans (hb2.mono HH1.out.size))
        clear hb2
        have HP := Lib.hid (HP.out.alloc _ : At (w2.alloc (.cells #[.int .u8 8, .int .u8 id.toNat, .string DB] 23)) w.heap.size c i d)
        have HA := Lib.hid (HA.out.alloc _ : At (w2.alloc (.cells #[.int .u8 8, .int .u8 id.toNat, .string DB] 23)) w1.heap.size (0 : UInt8) (0 : UInt8) ⟨#[]⟩)
        have HB := Lib.hid (at_new w2 (8 : UInt8) id DB : At (w2.alloc (.cells #[.int .u8 8, .int .u8 id.toNat, .string DB] 23)) w2.heap.size (8 : UInt8) id DB)
        have HH2 := Lib.hid (HH2.out.alloc HH2.out.size _ : Below w.heap.size w (w2.alloc (.cells #[.int .u8 8, .int .u8 id.toNat, .string DB] 23)))
        have cP0 := HP.out.c0
        have cP1 := HP.out.c1
        have cP2 := HP.out.c2
        have cB0 := HB.out.c0
        have cB1 := HB.out.c1
        have cB2 := HB.out.c2
        go_wp2_with fail
        refine (X1.out _).mono ?_
        rintro e w3 ⟨rfl, hb3⟩
        have HP := Lib.hid (HP.out.callee hb3)
        have HA := Lib.hid (HA.out.callee hb3)
        have HB := Lib.hid (HB.out.callee hb3)
        have HH3 := Lib.hid (HH2.out.trans (hb3.mono HH2.out.size))
        clear hb3
        have cB0 := HB.out.c0
        have cB1 := HB.out.c1
        have cB2 := HB.out.c2
        go_wp2_with fail
        refine (alive_any _).mono ?_
        rintro e w4 ⟨rfl, hb4⟩
        have HP := Lib.hid (HP.out.callee hb4)
        have HA := Lib.hid (HA.out.callee hb4)
        have HB := Lib.hid (HB.out.callee hb4)
        have HH4 := Lib.hid (HH3.out.trans (hb4.mono HH3.out.size))
        clear hb4
        go_wp2
        go_ret
        exact ⟨rfl, HH4.out⟩
      · have HH0 := Lib.hid (Below.refl w.heap.size w)
        have HP := Lib.hid (at_new w c i d : At (w.alloc (.cells #[.int .u8 c.toNat, .int .u8 i.toNat, .string d] 23)) w.heap.size c i d)
        have HH0 := Lib.hid (HH0.out.alloc HH0.out.size _ : Below w.heap.size w (w.alloc (.cells #[.int .u8 c.toNat, .int .u8 i.toNat, .string d] 23)))
        obtain ⟨DB, X, hx1, hx2, hP1, hX1⟩ := fit_proto id p s q hp (by omega) (by omega) (by omega)
        have P1 := Lib.hid hP1
        have X1 := Lib.hid hX1
        obtain ⟨DA, Y, hy1, hy2, hC1, hY1⟩ := fit_code id c i d q (by omega) (by omega) (by omega)
        have C1 := Lib.hid hC1
        have Y1 := Lib.hid hY1
        clear hC1 hY1
        have hd1 : decide ((d.size : Int) ≤ 1496) = true := decide_eq_true (by omega)
        have hl1 : ¬ (q : Int) < 64 := by omega
        clear hp hq hl hP1 hX1
        go_enter Try.func4, Try.ntmps4
        go_wp2_with fail
        refine (C1.out _).mono ?_
        rintro e w1 ⟨rfl, hb1⟩
        have HP := Lib.hid (HP.out.callee hb1)
        have HH1 := Lib.hid (HH0.out.trans (hb1.mono HH0.out.size))
        clear hb1
        have HP := Lib.hid (HP.out.alloc _ : At (w1.alloc (.cells #[.int .u8 7, .int .u8 id.toNat, .string DA] 23)) w.heap.size c i d)
        have HA := Lib.hid (at_new w1 (7 : UInt8) id DA : At (w1.alloc (.cells #[.int .u8 7, .int .u8 id.toNat, .string DA] 23)) w1.heap.size (7 : UInt8) id DA)
        have HH1 := Lib.hid (HH1.out.alloc HH1.out.size _ : Below w.heap.size w (w1.alloc (.cells #[.int .u8 7, .int .u8 id.toNat, .string DA] 23)))
        go_wp2_with fail
        refine (P1.out _).mono ?_
        rintro e w2 ⟨rfl, hb2⟩
        have HP := Lib.hid (HP.out.callee hb2)
        have HA := Lib.hid (HA.out.callee hb2)
        have HH2 := Lib.hid (HH1.out.trans (hb2.mono HH1.out.size))
        clear hb2
        have HP := Lib.hid (HP.out.alloc _ : At (w2.alloc (.cells #[.int .u8 8, .int .u8 id.toNat, .string DB] 23)) w.heap.size c i d)
        have HA := Lib.hid (HA.out.alloc _ : At (w2.alloc (.cells #[.int .u8 8, .int .u8 id.toNat, .string DB] 23)) w1.heap.size (7 : UInt8) id DA)
        have HB := Lib.hid (at_new w2 (8 : UInt8) id DB : At (w2.alloc (.cells #[.int .u8 8, .int .u8 id.toNat, .string DB] 23)) w2.heap.size (8 : UInt8) id DB)
        have HH2 := Lib.hid (HH2.out.alloc HH2.out.size _ : Below w.heap.size w (w2.alloc (.cells #[.int .u8 8, .int .u8 id.toNat, .string DB] 23)))
        have cP0 := HP.out.c0
        have cP1 := HP.out.c1
        have cP2 := HP.out.c2
        have cB0 := HB.out.c0
        have cB1 := HB.out.c1
        have cB2 := HB.out.c2
        go_wp2_with fail
        refine (X1.out _).mono ?_
        rintro e w3 ⟨rfl, hb3⟩
        have HP := Lib.hid (HP.out.callee hb3)
        have HA := Lib.hid (HA.out.callee hb3)
        have HB := Lib.hid (HB.out.callee hb3)
        have HH3 := Lib.hid (HH2.out.trans (hb3.mono HH2.out.size))
        clear hb3
        have cB0 := HB.out.c0
        have cB1 := HB.out.c1
        have cB2 := HB.out.c2
        have cA0 := HA.out.c0
        have cA1 := HA.out.c1
        have cA2 := HA.out.c2
        go_wp2_with fail
        refine (Y1.out _).mono ?_
        rintro e w4 ⟨rfl, hb4⟩
        have HP := Lib.hid (HP.out.callee hb4)
        have HA := Lib.hid (HA.out.callee hb4)
        have HB := Lib.hid (HB.out.callee hb4)
        have HH4 := Lib.hid (HH3.out.trans (hb4.mono HH3.out.size))
        clear hb4
        have cA0 := HA.out.c0
        have cA1 := HA.out.c1
        have cA2 := HA.out.c2
        go_wp2_with fail
        refine (alive_any _).mono ?_
        rintro e w5 ⟨rfl, hb5⟩
        have HP := Lib.hid (HP.out.callee hb5)
        have HA := Lib.hid (HA.out.callee hb5)
        have HB := Lib.hid (HB.out.callee hb5)
        have HH5 := Lib.hid (HH4.out.trans (hb5.mono HH4.out.size))
        clear hb5
        go_wp2
        go_ret
        exact ⟨rfl, HH5.out⟩

set_option maxRecDepth 100000 in
theorem lifted (os : Os) (started : os.Started) (H : Type) (enc : TypeId × Value → H) :
    ReturnsInHanded {} Try.checked os 4 .any (Rows.rejectFitsSpec.pre6 enc Try.prog Try.f4 Rows.rejectFitsRow.domain false) (Rows.rejectFitsSpec.post enc Try.prog Try.f4 false true false false) := by
  refine returnsInHanded_of_change_sized (C := Try.checked) own started (by kernel_rfl) Try.func4
    (ChangeSpec.witness6 (enc := enc) (C := Try.checked) false ⟨#[], #[.int .u8 0, .agg #[.int .u8 0, .int .u8 0, .string ByteArray.empty], .int .u16 0, .string ByteArray.empty, .int .u16 0], []⟩ 8 (by kernel_rfl) (by kernel_rfl) (by kernel_rfl) (by kernel_rfl)) ?_
  intro W base args ds gs before hval0 hW hcnd hsz0 _
  have hsz : (DataW.weightsEach Try.prog (Try.f4.params.toList ++ Rows.rejectFitsSpec.plain.varTypes Try.prog) (ds ++ gs)).all (· ≤ reachBytes) = true := hsz0
  have hval : ∀ (j : Nat) t v, Try.f4.params[j]? = some t → args[j]? = some v → Value.okWide Try.prog W .any base t v := hval0
  have hW' := hW
  obtain ⟨p, q, hA0, hV, rfl, hfz, hnd⟩ := hW
  have hlt := hW'.lt
  have hA : DataW.TrodAll enc Try.prog W 0 (fun _ => true) true Try.f4.params.toList args.toList ds p := hA0
  rw [Try.params4] at hA hval hsz
  obtain ⟨v0, vs0, d0, ds0, p0, q0, hargs, rfl, rfl, h0, r0⟩ := trodAll_cons hA
  obtain ⟨v1, vs1, d1, ds1, p1, q1, rfl, rfl, rfl, h1, r1⟩ := trodAll_cons r0
  obtain ⟨v2, vs2, d2, ds2, p2, q2, rfl, rfl, rfl, h2, r2⟩ := trodAll_cons r1
  obtain ⟨v3, vs3, d3, ds3, p3, q3, rfl, rfl, rfl, h3, r3⟩ := trodAll_cons r2
  obtain ⟨v4, vs4, d4, ds4, p4, q4, rfl, rfl, rfl, h4, r4⟩ := trodAll_cons r3
  obtain ⟨rfl, rfl, rfl⟩ := trodAll_nil r4
  obtain rfl : args = #[v0, v1, v2, v3, v4] := by cases args; simp_all
  obtain ⟨rfl, rfl⟩ := trodVars_none hV
  obtain ⟨z0, rfl, rfl, rfl, w0⟩ := open_int Try.underlying5 (hval 0 5 v0 rfl rfl) h0
  have b0 := bounds_u8 w0
  obtain ⟨a0, rfl⟩ := u8_of (z := z0) (by omega) (by omega)
  obtain ⟨c1, i1, a1, rfl, z1⟩ := pk3_of Try.underlying23 (by kernel_rfl) (by kernel_rfl) Try.underlying5 Try.underlying5 Try.underlying9 (hval 1 23 v1 rfl rfl) h1 (fun n hn => of_decide_eq_true (List.all_eq_true.1 hsz n (DataW.weights_mem_each (j := 1) (t := 23) rfl rfl n hn)))
  obtain ⟨z2, rfl, rfl, rfl, w2⟩ := open_int Try.underlying24 (hval 2 24 v2 rfl rfl) h2
  obtain ⟨a2, rfl⟩ : ∃ n : Nat, z2 = n := ⟨z2.toNat, by have := bounds_u16 w2; omega⟩
  have b2 := bounds_u16 w2
  obtain ⟨a3, rfl, rfl, rfl, w3⟩ := open_string Try.underlying9 (hval 3 9 v3 rfl rfl) h3
  obtain ⟨z4, rfl, rfl, rfl, w4⟩ := open_int Try.underlying24 (hval 4 24 v4 rfl rfl) h4
  obtain ⟨a4, rfl⟩ : ∃ n : Nat, z4 = n := ⟨z4.toNat, by have := bounds_u16 w4; omega⟩
  have b4 := bounds_u16 w4
  have z3 : a3.size ≤ 140737488351232 := by have h := sized_string hsz (j := 3) (t := 9) rfl rfl; rw [Array.length_toList] at h; exact h
  clear hA0 hval0 hsz0
  exact (walk a0 c1 i1 a1 a3 a2 a4 (by omega) (by omega) z1 z3 W).mono fun e W' ⟨he, hb⟩ => ⟨_, he, law_post (t := 4) laidOut (by kernel_rfl) rfl rfl Try.underlying4 ⟨rfl, rfl, rfl⟩ hW' hb⟩

theorem over : Rows.rejectFitsRow.holds Try.pinned (OpenSpec.ofChange Rows.rejectFitsSpec) :=
  OpenClaim.holds_of_wide 4 Try.f4 rfl rfl rfl rfl rfl rfl rfl ⟨rfl, rfl, rfl, rfl, rfl⟩ rfl rfl rfl rfl rfl (by kernel_rfl) Try.func4 (by kernel_rfl)
    (of_decide_eq_true (by kernel_rfl)) (by unfold Func.isWrapper; first | (rw [if_pos (by decide +kernel)]; kernel_rfl) | (rw [if_neg (by decide +kernel)]; exact ⟨rfl, rfl⟩))
    (fun os started H enc _ => lifted os started H enc)

theorem proved : Rows.RejectFitsSaid :=
  over
#print axioms proved
end Go.Proofs.Ytfcndljbijcbkaa.RejectFits
