/- PROVED: 'halyardlaw11.RejectSays' returns true for every packet, every text, every protocol and every two numbers, and leaves them as they were. No condition. -/
import Derived.Test.YtfcndljbijcbkaaRejF
import Derived.Test.YtfcndljbijcbkaaPk3
import Derived.Test.YtfcndljbijcbkaaLaw
import Derived.Test.YtfcndljbijcbkaaRows
import Derived.SizedLaws
namespace Go.Proofs.Ytfcndljbijcbkaa.RejectSays
open Go.ChangeShapes Go.WideShapes Go.ChangeAt Go.RowKit Go.Proofs.Ytfcndljbijcbkaa.Oct Go.Proofs.Ytfcndljbijcbkaa.Row Go.Proofs.Ytfcndljbijcbkaa.Pkt Go.Proofs.Ytfcndljbijcbkaa.Rej Go.Proofs.Ytfcndljbijcbkaa.Mem Go.Proofs.Ytfcndljbijcbkaa.Law
open Go.ChangeMaps (open_string shut_string)

theorem may_low {q : Nat} (h : q < 64) : may q = false := by
  unfold may
  rw [decide_eq_false (by omega)]; rfl
theorem four_of (c i : UInt8) (d : ByteArray) (q : Nat) (h : 64 ≤ q) : ∃ D, bOf ((enc c i d.toList).take (sp q)) = D ∧ D.size = min (sp q) (d.size + 4) ∧ ∃ (h0 : 0 < D.size) (h1 : 1 < D.size), D[0] = c ∧ D[1] = i ∧ D.toList.drop 4 = d.toList.take (sp q - 4) := by
  have hs := sp_small h
  obtain ⟨k, hk⟩ : ∃ k, sp q = k + 4 := ⟨sp q - 4, by omega⟩
  have hz : (bOf ((enc c i d.toList).take (sp q))).size = min (sp q) (d.size + 4) := by rw [size_bOf, List.length_take, enc_length, ← size_toList]
  refine ⟨_, rfl, hz, by rw [hz]; omega, by rw [hz]; omega, ?_, ?_, ?_⟩
  · rw [getElem_toList]
    simp only [toList_bOf]
    rw [List.getElem_take]; rfl
  · rw [getElem_toList]
    simp only [toList_bOf]
    rw [List.getElem_take]; rfl
  · rw [toList_bOf, hk, enc, numS_two]
    simp
theorem two_front (p : Nat) (s : ByteArray) (q : Nat) (h : 64 ≤ q) (hp : p < 65536) : ∃ D, bOf ((numS p 2 ++ s.toList).take (sp q)) = D ∧ D.size = min (sp q) (s.size + 2) ∧ ∃ (h0 : 0 < D.size) (h1 : 1 < D.size), (D[0]).toNat * 256 + (D[1]).toNat = p ∧ D.toList.drop 2 = s.toList.take (sp q - 2) := by
  have hs := sp_small h
  obtain ⟨k, hk⟩ : ∃ k, sp q = k + 2 := ⟨sp q - 2, by omega⟩
  have hz : (bOf ((numS p 2 ++ s.toList).take (sp q))).size = min (sp q) (s.size + 2) := by rw [size_bOf, List.length_take, List.length_append, numS_length, ← size_toList, Nat.add_comm 2]
  refine ⟨_, rfl, hz, by rw [hz]; omega, by rw [hz]; omega, ?_, ?_⟩
  · rw [getElem_toList, getElem_toList]
    simp only [toList_bOf]
    rw [List.getElem_take, List.getElem_take]
    simp only [numS_two, List.cons_append, List.nil_append, List.getElem_cons_zero, List.getElem_cons_succ, UInt8.toNat_ofNat']
    omega
  · rw [toList_bOf, hk, numS_two]
    simp
theorem says_code (id c i : UInt8) (d : ByteArray) (q : Nat) (hq0 : 64 ≤ q) (hq1 : q ≤ 65535) (hd : d.size ≤ 1496) : ∃ DA Y : ByteArray, (∀ w, Calls Try.prog 7 #[.int .u8 id.toNat, .agg #[.int .u8 c.toNat, .int .u8 i.toNat, .string d], .int .i64 q] w fun x w' => x = .returned (.tuple #[.agg #[.int .u8 7, .int .u8 id.toNat, .string DA], .int .i64 0]) ∧ Below w.heap.size w w') ∧ (∀ w, Calls Try.prog 11 #[.agg #[.int .u8 7, .int .u8 id.toNat, .string DA]] w fun x w' => x = .returned (.tuple #[.agg #[.int .u8 c.toNat, .int .u8 i.toNat, .string Y], .int .i64 0]) ∧ Below w.heap.size w w') ∧
    (Y = d ∨ (Y.size : Int) < d.size ∧ d.extract 0 Y.size = Y ∧ (DA.size : Int) + 4 = ((min q 1500 : Nat) : Int)) := by
  obtain ⟨D, hD, hz, h0, h1, e0, e1, hr⟩ := four_of c i d q hq0
  have hC := fun w => code_ok id c i d q w hq0 hq1 hd
  have hs := sp_small hq0
  have hI := fun w => inner_ok 7 id D c i w rfl (by rw [hz]; omega) (by rw [hz]; unfold maxLen; omega) e0 e1
  rw [hD] at hC
  rw [hr] at hI
  refine ⟨D, _, hC, hI, ?_⟩
  by_cases hw : d.size ≤ sp q - 4
  · left
    rw [List.take_of_length_le (by rw [← size_toList]; exact hw), bOf_toList]
  · right
    have hl : (bOf (d.toList.take (sp q - 4))).size = sp q - 4 := by rw [size_bOf, List.length_take, ← size_toList]; omega
    refine ⟨by rw [hl]; omega, by rw [hl, extract_front], ?_⟩
    rw [hz]
    unfold sp at *
    omega
theorem says_proto (id : UInt8) (p : Nat) (s : ByteArray) (q : Nat) (hp : p < 65536) (hq0 : 64 ≤ q) (hq1 : q ≤ 65535) (hs : s.size ≤ 1048576) : ∃ DB Y : ByteArray, (∀ w, Calls Try.prog 8 #[.int .u8 id.toNat, .int .u16 p, .string s, .int .i64 q] w fun x w' => x = .returned (.tuple #[.agg #[.int .u8 8, .int .u8 id.toNat, .string DB], .int .i64 0]) ∧ Below w.heap.size w w') ∧ (∀ w, Calls Try.prog 9 #[.agg #[.int .u8 8, .int .u8 id.toNat, .string DB]] w fun x w' => x = .returned (.tuple #[.int .u16 p, .string Y, .int .i64 0]) ∧ Below w.heap.size w w') ∧
    (Y = s ∨ (Y.size : Int) < s.size ∧ s.extract 0 Y.size = Y ∧ (DB.size : Int) + 4 = ((min q 1500 : Nat) : Int)) := by
  obtain ⟨D, hD, hz, h0, h1, hpp, hr⟩ := two_front p s q hq0 hp
  have hC := fun w => proto_ok id p s q w hp hq0 hq1 (by unfold maxLen; omega)
  have h60 := sp_small hq0
  have hI := fun w => rejected_ok 8 id D _ _ w rfl (by rw [hz]; omega) (by rw [hz]; unfold maxLen; omega) rfl rfl
  rw [hD] at hC
  rw [hr, hpp] at hI
  refine ⟨D, _, hC, hI, ?_⟩
  by_cases hw : s.size ≤ sp q - 2
  · left
    rw [List.take_of_length_le (by rw [← size_toList]; exact hw), bOf_toList]
  · right
    have hl : (bOf (s.toList.take (sp q - 2))).size = sp q - 2 := by rw [size_bOf, List.length_take, ← size_toList]; omega
    refine ⟨by rw [hl]; omega, by rw [hl, extract_front], ?_⟩
    rw [hz]
    unfold sp at *
    omega
set_option maxHeartbeats 4000000 in
set_option maxRecDepth 100000 in
theorem walk (id c i : UInt8) (d s : ByteArray) (p q : Nat) (hp : p < 65536) (hq : q < 65536) (hd : d.size ≤ 140737488351232) (hs : s.size ≤ 140737488351232) (w : World) :
    Calls Try.prog 5 #[.int .u8 id.toNat, .agg #[.int .u8 c.toNat, .int .u8 i.toNat, .string d], .int .u16 p, .string s, .int .u16 q] w fun e w' => e = .returned (.bool true) ∧ Below w.heap.size w w' := by
  have b1 : (0 : Int) ≤ q := by omega
  have b2 : (q : Int) ≤ 65535 := by omega
  by_cases h : 16384 < (d.size : Int) + (s.size : Int)
  · have HH0 := Lib.hid (Below.refl w.heap.size w)
    have HP := Lib.hid (at_new w c i d : At (w.alloc (.cells #[.int .u8 c.toNat, .int .u8 i.toNat, .string d] 23)) w.heap.size c i d)
    have HH0 := Lib.hid (HH0.out.alloc HH0.out.size _ : Below w.heap.size w (w.alloc (.cells #[.int .u8 c.toNat, .int .u8 i.toNat, .string d] 23)))
    go_enter Try.func5, Try.ntmps5
    go_wp2_with fail
    refine (alive_any _).mono ?_
    rintro e w1 ⟨rfl, hb1⟩
    have HP := Lib.hid (HP.out.callee hb1)
    have HH1 := Lib.hid (HH0.out.trans (hb1.mono HH0.out.size))
    clear hb1
    go_wp2
    go_ret
    exact ⟨rfl, HH1.out⟩
  · by_cases hl : q < 64
    · have HH0 := Lib.hid (Below.refl w.heap.size w)
      have HP := Lib.hid (at_new w c i d : At (w.alloc (.cells #[.int .u8 c.toNat, .int .u8 i.toNat, .string d] 23)) w.heap.size c i d)
      have HH0 := Lib.hid (HH0.out.alloc HH0.out.size _ : Below w.heap.size w (w.alloc (.cells #[.int .u8 c.toNat, .int .u8 i.toNat, .string d] 23)))
      have C1 := Lib.hid (fun w => code_bad id c i d q w (may_low hl))
      have P1 := Lib.hid (fun w => proto_bad id p s q w (may_low hl))
      have hl1 : decide ((64 : Int) ≤ q) = false := decide_eq_false (by omega)
      clear hp hq hl
      go_enter Try.func5, Try.ntmps5
      go_wp2_with fail
      refine (C1.out _).mono ?_
      rintro e w1 ⟨rfl, hb1⟩
      have HP := Lib.hid (HP.out.callee hb1)
      have HH1 := Lib.hid (HH0.out.trans (hb1.mono HH0.out.size))
      clear hb1
      have HP := Lib.hid (HP.out.alloc _ : At (w1.alloc (.cells #[.int .u8 0, .int .u8 0, .string ⟨#[]⟩] 23)) w.heap.size c i d)
      have HA := Lib.hid (at_new w1 (0 : UInt8) (0 : UInt8) ⟨#[]⟩ : At (w1.alloc (.cells #[.int .u8 0, .int .u8 0, .string ⟨#[]⟩] 23)) w1.heap.size (0 : UInt8) (0 : UInt8) ⟨#[]⟩)
      have HH1 := Lib.hid (HH1.out.alloc HH1.out.size _ : Below w.heap.size w (w1.alloc (.cells #[.int .u8 0, .int .u8 0, .string ⟨#[]⟩] 23)))
      go_wp2_with fail
      refine (P1.out _).mono ?_
      rintro e w2 ⟨rfl, hb2⟩
      have HP := Lib.hid (HP.out.callee hb2)
      have HA := Lib.hid (HA.out.callee hb2)
      have HH2 := Lib.hid (HH1.out.trans (hb2.mono HH1.out.size))
      clear hb2
      have HP := Lib.hid (HP.out.alloc _ : At (w2.alloc (.cells #[.int .u8 0, .int .u8 0, .string ⟨#[]⟩] 23)) w.heap.size c i d)
      have HA := Lib.hid (HA.out.alloc _ : At (w2.alloc (.cells #[.int .u8 0, .int .u8 0, .string ⟨#[]⟩] 23)) w1.heap.size (0 : UInt8) (0 : UInt8) ⟨#[]⟩)
      have HB := Lib.hid (at_new w2 (0 : UInt8) (0 : UInt8) ⟨#[]⟩ : At (w2.alloc (.cells #[.int .u8 0, .int .u8 0, .string ⟨#[]⟩] 23)) w2.heap.size (0 : UInt8) (0 : UInt8) ⟨#[]⟩)
      have HH2 := Lib.hid (HH2.out.alloc HH2.out.size _ : Below w.heap.size w (w2.alloc (.cells #[.int .u8 0, .int .u8 0, .string ⟨#[]⟩] 23)))
      go_wp2_with fail
      refine (alive_any _).mono ?_
      rintro e w3 ⟨rfl, hb3⟩
      have HP := Lib.hid (HP.out.callee hb3)
      have HA := Lib.hid (HA.out.callee hb3)
      have HB := Lib.hid (HB.out.callee hb3)
      have HH3 := Lib.hid (HH2.out.trans (hb3.mono HH2.out.size))
      clear hb3
      go_wp2
      go_ret
      exact ⟨rfl, HH3.out⟩
    · obtain ⟨DB, T, hP1, hR1, ht⟩ := says_proto id p s q hp (by omega) (by omega) (by omega)
      by_cases hdl : 1496 < d.size
      · rcases ht with ht | ht
        · rw [ht] at hR1
          clear ht
          have HH0 := Lib.hid (Below.refl w.heap.size w)
          have HP := Lib.hid (at_new w c i d : At (w.alloc (.cells #[.int .u8 c.toNat, .int .u8 i.toNat, .string d] 23)) w.heap.size c i d)
          have HH0 := Lib.hid (HH0.out.alloc HH0.out.size _ : Below w.heap.size w (w.alloc (.cells #[.int .u8 c.toNat, .int .u8 i.toNat, .string d] 23)))
          have P1 := Lib.hid hP1
          have R1 := Lib.hid hR1
          have hxt := beq_self s
          have C1 := Lib.hid (fun w => code_long id c i d q w (may_yes (by omega) (by omega)) (by omega))
          have hl1 : decide ((64 : Int) ≤ q) = true := decide_eq_true (by omega)
          clear hP1 hR1 hq hl hdl
          go_enter Try.func5, Try.ntmps5
          go_wp2_with fail
          refine (C1.out _).mono ?_
          rintro e w1 ⟨rfl, hb1⟩
          have HP := Lib.hid (HP.out.callee hb1)
          have HH1 := Lib.hid (HH0.out.trans (hb1.mono HH0.out.size))
          clear hb1
          have HP := Lib.hid (HP.out.alloc _ : At (w1.alloc (.cells #[.int .u8 0, .int .u8 0, .string ⟨#[]⟩] 23)) w.heap.size c i d)
          have HA := Lib.hid (at_new w1 (0 : UInt8) (0 : UInt8) ⟨#[]⟩ : At (w1.alloc (.cells #[.int .u8 0, .int .u8 0, .string ⟨#[]⟩] 23)) w1.heap.size (0 : UInt8) (0 : UInt8) ⟨#[]⟩)
          have HH1 := Lib.hid (HH1.out.alloc HH1.out.size _ : Below w.heap.size w (w1.alloc (.cells #[.int .u8 0, .int .u8 0, .string ⟨#[]⟩] 23)))
          go_wp2_with fail
          refine (P1.out _).mono ?_
          rintro e w2 ⟨rfl, hb2⟩
          have HP := Lib.hid (HP.out.callee hb2)
          have HA := Lib.hid (HA.out.callee hb2)
          have HH2 := Lib.hid (HH1.out.trans (hb2.mono HH1.out.size))
          clear hb2
          have HP := Lib.hid (HP.out.alloc _ : At (w2.alloc (.cells #[.int .u8 8, .int .u8 id.toNat, .string DB] 23)) w.heap.size c i d)
          have HA := Lib.hid (HA.out.alloc _ : At (w2.alloc (.cells #[.int .u8 8, .int .u8 id.toNat, .string DB] 23)) w1.heap.size (0 : UInt8) (0 : UInt8) ⟨#[]⟩)
          have HB := Lib.hid (at_new w2 (8 : UInt8) id DB : At (w2.alloc (.cells #[.int .u8 8, .int .u8 id.toNat, .string DB] 23)) w2.heap.size (8 : UInt8) id DB)
          have HH2 := Lib.hid (HH2.out.alloc HH2.out.size _ : Below w.heap.size w (w2.alloc (.cells #[.int .u8 8, .int .u8 id.toNat, .string DB] 23)))
          have cP0 := HP.out.c0
          have cP1 := HP.out.c1
          have cP2 := HP.out.c2
          have cB0 := HB.out.c0
          have cB1 := HB.out.c1
          have cB2 := HB.out.c2
          go_wp2_with fail
          refine (R1.out _).mono ?_
          rintro e w3 ⟨rfl, hb3⟩
          have HP := Lib.hid (HP.out.callee hb3)
          have HA := Lib.hid (HA.out.callee hb3)
          have HB := Lib.hid (HB.out.callee hb3)
          have HH3 := Lib.hid (HH2.out.trans (hb3.mono HH2.out.size))
          clear hb3
          have cB0 := HB.out.c0
          have cB1 := HB.out.c1
          have cB2 := HB.out.c2
          go_wp2_with fail
          refine (alive_any _).mono ?_
          rintro e w4 ⟨rfl, hb4⟩
          have HP := Lib.hid (HP.out.callee hb4)
          have HA := Lib.hid (HA.out.callee hb4)
          have HB := Lib.hid (HB.out.callee hb4)
          have HH4 := Lib.hid (HH3.out.trans (hb4.mono HH3.out.size))
          clear hb4
          go_wp2
          go_ret
          exact ⟨rfl, HH4.out⟩
        · have HH0 := Lib.hid (Below.refl w.heap.size w)
          have HP := Lib.hid (at_new w c i d : At (w.alloc (.cells #[.int .u8 c.toNat, .int .u8 i.toNat, .string d] 23)) w.heap.size c i d)
          have HH0 := Lib.hid (HH0.out.alloc HH0.out.size _ : Below w.heap.size w (w.alloc (.cells #[.int .u8 c.toNat, .int .u8 i.toNat, .string d] 23)))
          have P1 := Lib.hid hP1
          have R1 := Lib.hid hR1
          obtain ⟨ht1, ht2, ht3⟩ := ht
          have ht4 : (T.size : Int) ≤ s.size := by omega
          have hxt := beq_self T
          have C1 := Lib.hid (fun w => code_long id c i d q w (may_yes (by omega) (by omega)) (by omega))
          have hmn : min (q : Int) 1500 = ((min q 1500 : Nat) : Int) := by omega
          generalize min q 1500 = mn at *
          have hl1 : decide ((64 : Int) ≤ q) = true := decide_eq_true (by omega)
          clear hP1 hR1 hq hl hdl
          go_enter Try.func5, Try.ntmps5
          go_wp2_with fail
          refine (C1.out _).mono ?_
          rintro e w1 ⟨rfl, hb1⟩
          have HP := Lib.hid (HP.out.callee hb1)
          have HH1 := Lib.hid (HH0.out.trans (hb1.mono HH0.out.size))
          clear hb1
          have HP := Lib.hid (HP.out.alloc _ : At (w1.alloc (.cells #[.int .u8 0, .int .u8 0, .string ⟨#[]⟩] 23)) w.heap.size c i d)
          have HA := Lib.hid (at_new w1 (0 : UInt8) (0 : UInt8) ⟨#[]⟩ : At (w1.alloc (.cells #[.int .u8 0, .int .u8 0, .string ⟨#[]⟩] 23)) w1.heap.size (0 : UInt8) (0 : UInt8) ⟨#[]⟩)
          have HH1 := Lib.hid (HH1.out.alloc HH1.out.size _ : Below w.heap.size w (w1.alloc (.cells #[.int .u8 0, .int .u8 0, .string ⟨#[]⟩] 23)))
          go_wp2_with fail
          refine (P1.out _).mono ?_
          rintro e w2 ⟨rfl, hb2⟩
          have HP := Lib.hid (HP.out.callee hb2)
          have HA := Lib.hid (HA.out.callee hb2)
          have HH2 := Lib.hid (HH1.out.trans (hb2.mono HH1.out.size))
          clear hb2
          have HP := Lib.hid (HP.out.alloc _ : At (w2.alloc (.cells #[.int .u8 8, .int .u8 id.toNat, .string DB] 23)) w.heap.size c i d)
          have HA := Lib.hid (HA.out.alloc _ : At (w2.alloc (.cells #[.int .u8 8, .int .u8 id.toNat, .string DB] 23)) w1.heap.size (0 : UInt8) (0 : UInt8) ⟨#[]⟩)
          have HB := Lib.hid (at_new w2 (8 : UInt8) id DB : At (w2.alloc (.cells #[.int .u8 8, .int .u8 id.toNat, .string DB] 23)) w2.heap.size (8 : UInt8) id DB)
          have HH2 := Lib.hid (HH2.out.alloc HH2.out.size _ : Below w.heap.size w (w2.alloc (.cells #[.int .u8 8, .int .u8 id.toNat, .string DB] 23)))
          have cP0 := HP.out.c0
          have cP1 := HP.out.c1
          have cP2 := HP.out.c2
          have cB0 := HB.out.c0
          have cB1 := HB.out.c1
          have cB2 := HB.out.c2
          go_wp2_with fail
          refine (R1.out _).mono ?_
          rintro e w3 ⟨rfl, hb3⟩
          have HP := Lib.hid (HP.out.callee hb3)
          have HA := Lib.hid (HA.out.callee hb3)
          have HB := Lib.hid (HB.out.callee hb3)
          have HH3 := Lib.hid (HH2.out.trans (hb3.mono HH2.out.size))
          clear hb3
          have cB0 := HB.out.c0
          have cB1 := HB.out.c1
          have cB2 := HB.out.c2
          go_wp2_with fail
          refine (alive_any _).mono ?_
          rintro e w4 ⟨rfl, hb4⟩
          have HP := Lib.hid (HP.out.callee hb4)
          have HA := Lib.hid (HA.out.callee hb4)
          have HB := Lib.hid (HB.out.callee hb4)
          have HH4 := Lib.hid (HH3.out.trans (hb4.mono HH3.out.size))
          clear hb4
          go_wp2
          go_ret
          exact ⟨rfl, HH4.out⟩
      · obtain ⟨DA, Y, hC1, hI1, hy⟩ := says_code id c i d q (by omega) (by omega) (by omega)
        rcases hy with hy | hy
        · rw [hy] at hI1
          clear hy
          rcases ht with ht | ht
          · rw [ht] at hR1
            clear ht
            have HH0 := Lib.hid (Below.refl w.heap.size w)
            have HP := Lib.hid (at_new w c i d : At (w.alloc (.cells #[.int .u8 c.toNat, .int .u8 i.toNat, .string d] 23)) w.heap.size c i d)
            have HH0 := Lib.hid (HH0.out.alloc HH0.out.size _ : Below w.heap.size w (w.alloc (.cells #[.int .u8 c.toNat, .int .u8 i.toNat, .string d] 23)))
            have P1 := Lib.hid hP1
            have R1 := Lib.hid hR1
            have hxt := beq_self s
            have C1 := Lib.hid hC1
            have I1 := Lib.hid hI1
            have hxy := beq_self d
            clear hC1 hI1
            have hl1 : decide ((64 : Int) ≤ q) = true := decide_eq_true (by omega)
            clear hP1 hR1 hq hl hdl
            go_enter Try.func5, Try.ntmps5
            go_wp2_with fail
            refine (C1.out _).mono ?_
            rintro e w1 ⟨rfl, hb1⟩
            have HP := Lib.hid (HP.out.callee hb1)
            have HH1 := Lib.hid (HH0.out.trans (hb1.mono HH0.out.size))
            clear hb1
            have HP := Lib.hid (HP.out.alloc _ : At (w1.alloc (.cells #[.int .u8 7, .int .u8 id.toNat, .string DA] 23)) w.heap.size c i d)
            have HA := Lib.hid (at_new w1 (7 : UInt8) id DA : At (w1.alloc (.cells #[.int .u8 7, .int .u8 id.toNat, .string DA] 23)) w1.heap.size (7 : UInt8) id DA)
            have HH1 := Lib.hid (HH1.out.alloc HH1.out.size _ : Below w.heap.size w (w1.alloc (.cells #[.int .u8 7, .int .u8 id.toNat, .string DA] 23)))
            go_wp2_with fail
            refine (P1.out _).mono ?_
            rintro e w2 ⟨rfl, hb2⟩
            have HP := Lib.hid (HP.out.callee hb2)
            have HA := Lib.hid (HA.out.callee hb2)
            have HH2 := Lib.hid (HH1.out.trans (hb2.mono HH1.out.size))
            clear hb2
            have HP := Lib.hid (HP.out.alloc _ : At (w2.alloc (.cells #[.int .u8 8, .int .u8 id.toNat, .string DB] 23)) w.heap.size c i d)
            have HA := Lib.hid (HA.out.alloc _ : At (w2.alloc (.cells #[.int .u8 8, .int .u8 id.toNat, .string DB] 23)) w1.heap.size (7 : UInt8) id DA)
            have HB := Lib.hid (at_new w2 (8 : UInt8) id DB : At (w2.alloc (.cells #[.int .u8 8, .int .u8 id.toNat, .string DB] 23)) w2.heap.size (8 : UInt8) id DB)
            have HH2 := Lib.hid (HH2.out.alloc HH2.out.size _ : Below w.heap.size w (w2.alloc (.cells #[.int .u8 8, .int .u8 id.toNat, .string DB] 23)))
            have cP0 := HP.out.c0
            have cP1 := HP.out.c1
            have cP2 := HP.out.c2
            have cB0 := HB.out.c0
            have cB1 := HB.out.c1
            have cB2 := HB.out.c2
            have cA0 := HA.out.c0
            have cA1 := HA.out.c1
            have cA2 := HA.out.c2
            go_wp2_with fail
            refine (I1.out _).mono ?_
            rintro e w3 ⟨rfl, hb3⟩
            have HP := Lib.hid (HP.out.callee hb3)
            have HA := Lib.hid (HA.out.callee hb3)
            have HB := Lib.hid (HB.out.callee hb3)
            have HH3 := Lib.hid (HH2.out.trans (hb3.mono HH2.out.size))
            clear hb3
            have HP := Lib.hid (HP.out.alloc _ : At (w3.alloc (.cells #[.int .u8 c.toNat, .int .u8 i.toNat, .string d] 23)) w.heap.size c i d)
            have HA := Lib.hid (HA.out.alloc _ : At (w3.alloc (.cells #[.int .u8 c.toNat, .int .u8 i.toNat, .string d] 23)) w1.heap.size (7 : UInt8) id DA)
            have HB := Lib.hid (HB.out.alloc _ : At (w3.alloc (.cells #[.int .u8 c.toNat, .int .u8 i.toNat, .string d] 23)) w2.heap.size (8 : UInt8) id DB)
            have HX := Lib.hid (at_new w3 c i d : At (w3.alloc (.cells #[.int .u8 c.toNat, .int .u8 i.toNat, .string d] 23)) w3.heap.size c i d)
            have HH3 := Lib.hid (HH3.out.alloc HH3.out.size _ : Below w.heap.size w (w3.alloc (.cells #[.int .u8 c.toNat, .int .u8 i.toNat, .string d] 23)))
            have cP0 := HP.out.c0
            have cP1 := HP.out.c1
            have cP2 := HP.out.c2
            have cA0 := HA.out.c0
            have cA1 := HA.out.c1
            have cA2 := HA.out.c2
            have cB0 := HB.out.c0
            have cB1 := HB.out.c1
            have cB2 := HB.out.c2
            have cX0 := HX.out.c0
            have cX1 := HX.out.c1
            have cX2 := HX.out.c2
            go_wp2_with fail
            go_quiet (fail)
            have HP : Hid (At ((w3.alloc (.cells #[.int .u8 c.toNat, .int .u8 i.toNat, .string d] 23)).drewN nq) w.heap.size c i d) := Lib.hid HP.out
            have HA : Hid (At ((w3.alloc (.cells #[.int .u8 c.toNat, .int .u8 i.toNat, .string d] 23)).drewN nq) w1.heap.size (7 : UInt8) id DA) := Lib.hid HA.out
            have HB : Hid (At ((w3.alloc (.cells #[.int .u8 c.toNat, .int .u8 i.toNat, .string d] 23)).drewN nq) w2.heap.size (8 : UInt8) id DB) := Lib.hid HB.out
            have HX : Hid (At ((w3.alloc (.cells #[.int .u8 c.toNat, .int .u8 i.toNat, .string d] 23)).drewN nq) w3.heap.size c i d) := Lib.hid HX.out
            have HH3 := Lib.hid (HH3.out.drewN' nq)
            clear cP0 cP1 cP2 cA0 cA1 cA2 cB0 cB1 cB2 cX0 cX1 cX2
            generalize (w3.alloc (.cells #[.int .u8 c.toNat, .int .u8 i.toNat, .string d] 23)).drewN nq = U at *
            have cP0 := HP.out.c0
            have cP1 := HP.out.c1
            have cP2 := HP.out.c2
            have cA0 := HA.out.c0
            have cA1 := HA.out.c1
            have cA2 := HA.out.c2
            have cB0 := HB.out.c0
            have cB1 := HB.out.c1
            have cB2 := HB.out.c2
            have cX0 := HX.out.c0
            have cX1 := HX.out.c1
            have cX2 := HX.out.c2
            go_wp2_with fail
            refine (R1.out _).mono ?_
            rintro e w4 ⟨rfl, hb4⟩
            have HP := Lib.hid (HP.out.callee hb4)
            have HA := Lib.hid (HA.out.callee hb4)
            have HB := Lib.hid (HB.out.callee hb4)
            have HX := Lib.hid (HX.out.callee hb4)
            have HH4 := Lib.hid (HH3.out.trans (hb4.mono HH3.out.size))
            clear hb4
            have cB0 := HB.out.c0
            have cB1 := HB.out.c1
            have cB2 := HB.out.c2
            go_wp2_with fail
            refine (alive_any _).mono ?_
            rintro e w5 ⟨rfl, hb5⟩
            have HP := Lib.hid (HP.out.callee hb5)
            have HA := Lib.hid (HA.out.callee hb5)
            have HB := Lib.hid (HB.out.callee hb5)
            have HX := Lib.hid (HX.out.callee hb5)
            have HH5 := Lib.hid (HH4.out.trans (hb5.mono HH4.out.size))
            clear hb5
            go_wp2
            go_ret
            exact ⟨rfl, HH5.out⟩
          · have HH0 := Lib.hid (Below.refl w.heap.size w)
            have HP := Lib.hid (at_new w c i d : At (w.alloc (.cells #[.int .u8 c.toNat, .int .u8 i.toNat, .string d] 23)) w.heap.size c i d)
            have HH0 := Lib.hid (HH0.out.alloc HH0.out.size _ : Below w.heap.size w (w.alloc (.cells #[.int .u8 c.toNat, .int .u8 i.toNat, .string d] 23)))
            have P1 := Lib.hid hP1
            have R1 := Lib.hid hR1
            obtain ⟨ht1, ht2, ht3⟩ := ht
            have ht4 : (T.size : Int) ≤ s.size := by omega
            have hxt := beq_self T
            have C1 := Lib.hid hC1
            have I1 := Lib.hid hI1
            have hxy := beq_self d
            clear hC1 hI1
            have hmn : min (q : Int) 1500 = ((min q 1500 : Nat) : Int) := by omega
            generalize min q 1500 = mn at *
            have hl1 : decide ((64 : Int) ≤ q) = true := decide_eq_true (by omega)
            clear hP1 hR1 hq hl hdl
            go_enter Try.func5, Try.ntmps5
            go_wp2_with fail
            refine (C1.out _).mono ?_
            rintro e w1 ⟨rfl, hb1⟩
            have HP := Lib.hid (HP.out.callee hb1)
            have HH1 := Lib.hid (HH0.out.trans (hb1.mono HH0.out.size))
            clear hb1
            have HP := Lib.hid (HP.out.alloc _ : At (w1.alloc (.cells #[.int .u8 7, .int .u8 id.toNat, .string DA] 23)) w.heap.size c i d)
            have HA := Lib.hid (at_new w1 (7 : UInt8) id DA : At (w1.alloc (.cells #[.int .u8 7, .int .u8 id.toNat, .string DA] 23)) w1.heap.size (7 : UInt8) id DA)
            have HH1 := Lib.hid (HH1.out.alloc HH1.out.size _ : Below w.heap.size w (w1.alloc (.cells #[.int .u8 7, .int .u8 id.toNat, .string DA] 23)))
            go_wp2_with fail
            refine (P1.out _).mono ?_
            rintro e w2 ⟨rfl, hb2⟩
            have HP := Lib.hid (HP.out.callee hb2)
            have HA := Lib.hid (HA.out.callee hb2)
            have HH2 := Lib.hid (HH1.out.trans (hb2.mono HH1.out.size))
            clear hb2
            have HP := Lib.hid (HP.out.alloc _ : At (w2.alloc (.cells #[.int .u8 8, .int .u8 id.toNat, .string DB] 23)) w.heap.size c i d)
            have HA := Lib.hid (HA.out.alloc _ : At (w2.alloc (.cells #[.int .u8 8, .int .u8 id.toNat, .string DB] 23)) w1.heap.size (7 : UInt8) id DA)
            have HB := Lib.hid (at_new w2 (8 : UInt8) id DB : At (w2.alloc (.cells #[.int .u8 8, .int .u8 id.toNat, .string DB] 23)) w2.heap.size (8 : UInt8) id DB)
            have HH2 := Lib.hid (HH2.out.alloc HH2.out.size _ : Below w.heap.size w (w2.alloc (.cells #[.int .u8 8, .int .u8 id.toNat, .string DB] 23)))
            have cP0 := HP.out.c0
            have cP1 := HP.out.c1
            have cP2 := HP.out.c2
            have cB0 := HB.out.c0
            have cB1 := HB.out.c1
            have cB2 := HB.out.c2
            have cA0 := HA.out.c0
            have cA1 := HA.out.c1
            have cA2 := HA.out.c2
            go_wp2_with fail
            refine (I1.out _).mono ?_
            rintro e w3 ⟨rfl, hb3⟩
            have HP := Lib.hid (HP.out.callee hb3)
            have HA := Lib.hid (HA.out.callee hb3)
            have HB := Lib.hid (HB.out.callee hb3)
            have HH3 := Lib.hid (HH2.out.trans (hb3.mono HH2.out.size))
            clear hb3
            have HP := Lib.hid (HP.out.alloc _ : At (w3.alloc (.cells #[.int .u8 c.toNat, .int .u8 i.toNat, .string d] 23)) w.heap.size c i d)
            have HA := Lib.hid (HA.out.alloc _ : At (w3.alloc (.cells #[.int .u8 c.toNat, .int .u8 i.toNat, .string d] 23)) w1.heap.size (7 : UInt8) id DA)
            have HB := Lib.hid (HB.out.alloc _ : At (w3.alloc (.cells #[.int .u8 c.toNat, .int .u8 i.toNat, .string d] 23)) w2.heap.size (8 : UInt8) id DB)
            have HX := Lib.hid (at_new w3 c i d : At (w3.alloc (.cells #[.int .u8 c.toNat, .int .u8 i.toNat, .string d] 23)) w3.heap.size c i d)
            have HH3 := Lib.hid (HH3.out.alloc HH3.out.size _ : Below w.heap.size w (w3.alloc (.cells #[.int .u8 c.toNat, .int .u8 i.toNat, .string d] 23)))
            have cP0 := HP.out.c0
            have cP1 := HP.out.c1
            have cP2 := HP.out.c2
            have cA0 := HA.out.c0
            have cA1 := HA.out.c1
            have cA2 := HA.out.c2
            have cB0 := HB.out.c0
            have cB1 := HB.out.c1
            have cB2 := HB.out.c2
            have cX0 := HX.out.c0
            have cX1 := HX.out.c1
            have cX2 := HX.out.c2
            go_wp2_with fail
            go_quiet (fail)
            have HP : Hid (At ((w3.alloc (.cells #[.int .u8 c.toNat, .int .u8 i.toNat, .string d] 23)).drewN nq) w.heap.size c i d) := Lib.hid HP.out
            have HA : Hid (At ((w3.alloc (.cells #[.int .u8 c.toNat, .int .u8 i.toNat, .string d] 23)).drewN nq) w1.heap.size (7 : UInt8) id DA) := Lib.hid HA.out
            have HB : Hid (At ((w3.alloc (.cells #[.int .u8 c.toNat, .int .u8 i.toNat, .string d] 23)).drewN nq) w2.heap.size (8 : UInt8) id DB) := Lib.hid HB.out
            have HX : Hid (At ((w3.alloc (.cells #[.int .u8 c.toNat, .int .u8 i.toNat, .string d] 23)).drewN nq) w3.heap.size c i d) := Lib.hid HX.out
            have HH3 := Lib.hid (HH3.out.drewN' nq)
            clear cP0 cP1 cP2 cA0 cA1 cA2 cB0 cB1 cB2 cX0 cX1 cX2
            generalize (w3.alloc (.cells #[.int .u8 c.toNat, .int .u8 i.toNat, .string d] 23)).drewN nq = U at *
            have cP0 := HP.out.c0
            have cP1 := HP.out.c1
            have cP2 := HP.out.c2
            have cA0 := HA.out.c0
            have cA1 := HA.out.c1
            have cA2 := HA.out.c2
            have cB0 := HB.out.c0
            have cB1 := HB.out.c1
            have cB2 := HB.out.c2
            have cX0 := HX.out.c0
            have cX1 := HX.out.c1
            have cX2 := HX.out.c2
            go_wp2_with fail
            refine (R1.out _).mono ?_
            rintro e w4 ⟨rfl, hb4⟩
            have HP := Lib.hid (HP.out.callee hb4)
            have HA := Lib.hid (HA.out.callee hb4)
            have HB := Lib.hid (HB.out.callee hb4)
            have HX := Lib.hid (HX.out.callee hb4)
            have HH4 := Lib.hid (HH3.out.trans (hb4.mono HH3.out.size))
            clear hb4
            have cB0 := HB.out.c0
            have cB1 := HB.out.c1
            have cB2 := HB.out.c2
            go_wp2_with fail
            refine (alive_any _).mono ?_
            rintro e w5 ⟨rfl, hb5⟩
            have HP := Lib.hid (HP.out.callee hb5)
            have HA := Lib.hid (HA.out.callee hb5)
            have HB := Lib.hid (HB.out.callee hb5)
            have HX := Lib.hid (HX.out.callee hb5)
            have HH5 := Lib.hid (HH4.out.trans (hb5.mono HH4.out.size))
            clear hb5
            go_wp2
            go_ret
            exact ⟨rfl, HH5.out⟩
        · rcases ht with ht | ht
          · rw [ht] at hR1
            clear ht
            have HH0 := Lib.hid (Below.refl w.heap.size w)
            have HP := Lib.hid (at_new w c i d : At (w.alloc (.cells #[.int .u8 c.toNat, .int .u8 i.toNat, .string d] 23)) w.heap.size c i d)
            have HH0 := Lib.hid (HH0.out.alloc HH0.out.size _ : Below w.heap.size w (w.alloc (.cells #[.int .u8 c.toNat, .int .u8 i.toNat, .string d] 23)))
            have P1 := Lib.hid hP1
            have R1 := Lib.hid hR1
            have hxt := beq_self s
            have C1 := Lib.hid hC1
            have I1 := Lib.hid hI1
            have hxy := beq_self Y
            obtain ⟨hy1, hy2, hy3⟩ := hy
            have hy4 : (Y.size : Int) ≤ d.size := by omega
            have hy5 : decide ((d.size : Int) < Y.size) = false := decide_eq_false (by omega)
            have hy6 : Y.size ≤ d.size := by omega
            clear hC1 hI1
            have hmn : min (q : Int) 1500 = ((min q 1500 : Nat) : Int) := by omega
            generalize min q 1500 = mn at *
            have hl1 : decide ((64 : Int) ≤ q) = true := decide_eq_true (by omega)
            clear hP1 hR1 hq hl hdl
            go_enter Try.func5, Try.ntmps5
            go_wp2_with fail
            refine (C1.out _).mono ?_
            rintro e w1 ⟨rfl, hb1⟩
            have HP := Lib.hid (HP.out.callee hb1)
            have HH1 := Lib.hid (HH0.out.trans (hb1.mono HH0.out.size))
            clear hb1
            have HP := Lib.hid (HP.out.alloc _ : At (w1.alloc (.cells #[.int .u8 7, .int .u8 id.toNat, .string DA] 23)) w.heap.size c i d)
            have HA := Lib.hid (at_new w1 (7 : UInt8) id DA : At (w1.alloc (.cells #[.int .u8 7, .int .u8 id.toNat, .string DA] 23)) w1.heap.size (7 : UInt8) id DA)
            have HH1 := Lib.hid (HH1.out.alloc HH1.out.size _ : Below w.heap.size w (w1.alloc (.cells #[.int .u8 7, .int .u8 id.toNat, .string DA] 23)))
            go_wp2_with fail
            refine (P1.out _).mono ?_
            rintro e w2 ⟨rfl, hb2⟩
            have HP := Lib.hid (HP.out.callee hb2)
            have HA := Lib.hid (HA.out.callee hb2)
            have HH2 := Lib.hid (HH1.out.trans (hb2.mono HH1.out.size))
            clear hb2
            have HP := Lib.hid (HP.out.alloc _ : At (w2.alloc (.cells #[.int .u8 8, .int .u8 id.toNat, .string DB] 23)) w.heap.size c i d)
            have HA := Lib.hid (HA.out.alloc _ : At (w2.alloc (.cells #[.int .u8 8, .int .u8 id.toNat, .string DB] 23)) w1.heap.size (7 : UInt8) id DA)
            have HB := Lib.hid (at_new w2 (8 : UInt8) id DB : At (w2.alloc (.cells #[.int .u8 8, .int .u8 id.toNat, .string DB] 23)) w2.heap.size (8 : UInt8) id DB)
            have HH2 := Lib.hid (HH2.out.alloc HH2.out.size _ : Below w.heap.size w (w2.alloc (.cells #[.int .u8 8, .int .u8 id.toNat, .string DB] 23)))
            have cP0 := HP.out.c0
            have cP1 := HP.out.c1
            have cP2 := HP.out.c2
            have cB0 := HB.out.c0
            have cB1 := HB.out.c1
            have cB2 := HB.out.c2
            have cA0 := HA.out.c0
            have cA1 := HA.out.c1
            have cA2 := HA.out.c2
            go_wp2_with fail
            refine (I1.out _).mono ?_
            rintro e w3 ⟨rfl, hb3⟩
            have HP := Lib.hid (HP.out.callee hb3)
            have HA := Lib.hid (HA.out.callee hb3)
            have HB := Lib.hid (HB.out.callee hb3)
            have HH3 := Lib.hid (HH2.out.trans (hb3.mono HH2.out.size))
            clear hb3
            have HP := Lib.hid (HP.out.alloc _ : At (w3.alloc (.cells #[.int .u8 c.toNat, .int .u8 i.toNat, .string Y] 23)) w.heap.size c i d)
            have HA := Lib.hid (HA.out.alloc _ : At (w3.alloc (.cells #[.int .u8 c.toNat, .int .u8 i.toNat, .string Y] 23)) w1.heap.size (7 : UInt8) id DA)
            have HB := Lib.hid (HB.out.alloc _ : At (w3.alloc (.cells #[.int .u8 c.toNat, .int .u8 i.toNat, .string Y] 23)) w2.heap.size (8 : UInt8) id DB)
            have HX := Lib.hid (at_new w3 c i Y : At (w3.alloc (.cells #[.int .u8 c.toNat, .int .u8 i.toNat, .string Y] 23)) w3.heap.size c i Y)
            have HH3 := Lib.hid (HH3.out.alloc HH3.out.size _ : Below w.heap.size w (w3.alloc (.cells #[.int .u8 c.toNat, .int .u8 i.toNat, .string Y] 23)))
            have cP0 := HP.out.c0
            have cP1 := HP.out.c1
            have cP2 := HP.out.c2
            have cA0 := HA.out.c0
            have cA1 := HA.out.c1
            have cA2 := HA.out.c2
            have cB0 := HB.out.c0
            have cB1 := HB.out.c1
            have cB2 := HB.out.c2
            have cX0 := HX.out.c0
            have cX1 := HX.out.c1
            have cX2 := HX.out.c2
            go_wp2_with fail
            go_quiet (fail)
            have HP : Hid (At ((w3.alloc (.cells #[.int .u8 c.toNat, .int .u8 i.toNat, .string Y] 23)).drewN nq) w.heap.size c i d) := Lib.hid HP.out
            have HA : Hid (At ((w3.alloc (.cells #[.int .u8 c.toNat, .int .u8 i.toNat, .string Y] 23)).drewN nq) w1.heap.size (7 : UInt8) id DA) := Lib.hid HA.out
            have HB : Hid (At ((w3.alloc (.cells #[.int .u8 c.toNat, .int .u8 i.toNat, .string Y] 23)).drewN nq) w2.heap.size (8 : UInt8) id DB) := Lib.hid HB.out
            have HX : Hid (At ((w3.alloc (.cells #[.int .u8 c.toNat, .int .u8 i.toNat, .string Y] 23)).drewN nq) w3.heap.size c i Y) := Lib.hid HX.out
            have HH3 := Lib.hid (HH3.out.drewN' nq)
            clear cP0 cP1 cP2 cA0 cA1 cA2 cB0 cB1 cB2 cX0 cX1 cX2
            generalize (w3.alloc (.cells #[.int .u8 c.toNat, .int .u8 i.toNat, .string Y] 23)).drewN nq = U at *
            have cP0 := HP.out.c0
            have cP1 := HP.out.c1
            have cP2 := HP.out.c2
            have cA0 := HA.out.c0
            have cA1 := HA.out.c1
            have cA2 := HA.out.c2
            have cB0 := HB.out.c0
            have cB1 := HB.out.c1
            have cB2 := HB.out.c2
            have cX0 := HX.out.c0
            have cX1 := HX.out.c1
            have cX2 := HX.out.c2
            go_wp2_with fail
            refine (R1.out _).mono ?_
            rintro e w4 ⟨rfl, hb4⟩
            have HP := Lib.hid (HP.out.callee hb4)
            have HA := Lib.hid (HA.out.callee hb4)
            have HB := Lib.hid (HB.out.callee hb4)
            have HX := Lib.hid (HX.out.callee hb4)
            have HH4 := Lib.hid (HH3.out.trans (hb4.mono HH3.out.size))
            clear hb4
            have cB0 := HB.out.c0
            have cB1 := HB.out.c1
            have cB2 := HB.out.c2
            go_wp2_with fail
            refine (alive_any _).mono ?_
            rintro e w5 ⟨rfl, hb5⟩
            have HP := Lib.hid (HP.out.callee hb5)
            have HA := Lib.hid (HA.out.callee hb5)
            have HB := Lib.hid (HB.out.callee hb5)
            have HX := Lib.hid (HX.out.callee hb5)
            have HH5 := Lib.hid (HH4.out.trans (hb5.mono HH4.out.size))
            clear hb5
            go_wp2
            go_ret
            exact ⟨rfl, HH5.out⟩
          · have HH0 := Lib.hid (Below.refl w.heap.size w)
            have HP := Lib.hid (at_new w c i d : At (w.alloc (.cells #[.int .u8 c.toNat, .int .u8 i.toNat, .string d] 23)) w.heap.size c i d)
            have HH0 := Lib.hid (HH0.out.alloc HH0.out.size _ : Below w.heap.size w (w.alloc (.cells #[.int .u8 c.toNat, .int .u8 i.toNat, .string d] 23)))
            have P1 := Lib.hid hP1
            have R1 := Lib.hid hR1
            obtain ⟨ht1, ht2, ht3⟩ := ht
            have ht4 : (T.size : Int) ≤ s.size := by omega
            have hxt := beq_self T
            have C1 := Lib.hid hC1
            have I1 := Lib.hid hI1
            have hxy := beq_self Y
            obtain ⟨hy1, hy2, hy3⟩ := hy
            have hy4 : (Y.size : Int) ≤ d.size := by omega
            have hy5 : decide ((d.size : Int) < Y.size) = false := decide_eq_false (by omega)
            have hy6 : Y.size ≤ d.size := by omega
            clear hC1 hI1
            have hmn : min (q : Int) 1500 = ((min q 1500 : Nat) : Int) := by omega
            generalize min q 1500 = mn at *
            have hl1 : decide ((64 : Int) ≤ q) = true := decide_eq_true (by omega)
            clear hP1 hR1 hq hl hdl
            go_enter Try.func5, Try.ntmps5
            go_wp2_with fail
            refine (C1.out _).mono ?_
            rintro e w1 ⟨rfl, hb1⟩
            have HP := Lib.hid (HP.out.callee hb1)
            have HH1 := Lib.hid (HH0.out.trans (hb1.mono HH0.out.size))
            clear hb1
            have HP := Lib.hid (HP.out.alloc _ : At (w1.alloc (.cells #[.int .u8 7, .int .u8 id.toNat, .string DA] 23)) w.heap.size c i d)
            have HA := Lib.hid (at_new w1 (7 : UInt8) id DA : At (w1.alloc (.cells #[.int .u8 7, .int .u8 id.toNat, .string DA] 23)) w1.heap.size (7 : UInt8) id DA)
            have HH1 := Lib.hid (HH1.out.alloc HH1.out.size _ : Below w.heap.size w (w1.alloc (.cells #[.int .u8 7, .int .u8 id.toNat, .string DA] 23)))
            go_wp2_with fail
            refine (P1.out _).mono ?_
            rintro e w2 ⟨rfl, hb2⟩
            have HP := Lib.hid (HP.out.callee hb2)
            have HA := Lib.hid (HA.out.callee hb2)
            have HH2 := Lib.hid (HH1.out.trans (hb2.mono HH1.out.size))
            clear hb2
            have HP := Lib.hid (HP.out.alloc _ : At (w2.alloc (.cells #[.int .u8 8, .int .u8 id.toNat, .string DB] 23)) w.heap.size c i d)
            have HA := Lib.hid (HA.out.alloc _ : At (w2.alloc (.cells #[.int .u8 8, .int .u8 id.toNat, .string DB] 23)) w1.heap.size (7 : UInt8) id DA)
            have HB := Lib.hid (at_new w2 (8 : UInt8) id DB : At (w2.alloc (.cells #[.int .u8 8, .int .u8 id.toNat, .string DB] 23)) w2.heap.size (8 : UInt8) id DB)
            have HH2 := Lib.hid (HH2.out.alloc HH2.out.size _ : Below w.heap.size w (w2.alloc (.cells #[.int .u8 8, .int .u8 id.toNat, .string DB] 23)))
            have cP0 := HP.out.c0
            have cP1 := HP.out.c1
            have cP2 := HP.out.c2
            have cB0 := HB.out.c0
            have cB1 := HB.out.c1
            have cB2 := HB.out.c2
            have cA0 := HA.out.c0
            have cA1 := HA.out.c1
            have cA2 := HA.out.c2
            go_wp2_with fail
            refine (I1.out _).mono ?_
            rintro e w3 ⟨rfl, hb3⟩
            have HP := Lib.hid (HP.out.callee hb3)
            have HA := Lib.hid (HA.out.callee hb3)
            have HB := Lib.hid (HB.out.callee hb3)
            have HH3 := Lib.hid (HH2.out.trans (hb3.mono HH2.out.size))
            clear hb3
            have HP := Lib.hid (HP.out.alloc _ : At (w3.alloc (.cells #[.int .u8 c.toNat, .int .u8 i.toNat, .string Y] 23)) w.heap.size c i d)
            have HA := Lib.hid (HA.out.alloc _ : At (w3.alloc (.cells #[.int .u8 c.toNat, .int .u8 i.toNat, .string Y] 23)) w1.heap.size (7 : UInt8) id DA)
            have HB := Lib.hid (HB.out.alloc _ : At (w3.alloc (.cells #[.int .u8 c.toNat, .int .u8 i.toNat, .string Y] 23)) w2.heap.size (8 : UInt8) id DB)
            have HX := Lib.hid (at_new w3 c i Y : At (w3.alloc (.cells #[.int .u8 c.toNat, .int .u8 i.toNat, .string Y] 23)) w3.heap.size c i Y)
            have HH3 := Lib.hid (HH3.out.alloc HH3.out.size _ : Below w.heap.size w (w3.alloc (.cells #[.int .u8 c.toNat, .int .u8 i.toNat, .string Y] 23)))
            have cP0 := HP.out.c0
            have cP1 := HP.out.c1
            have cP2 := HP.out.c2
            have cA0 := HA.out.c0
            have cA1 := HA.out.c1
            have cA2 := HA.out.c2
            have cB0 := HB.out.c0
            have cB1 := HB.out.c1
            have cB2 := HB.out.c2
            have cX0 := HX.out.c0
            have cX1 := HX.out.c1
            have cX2 := HX.out.c2
            go_wp2_with fail
            go_quiet (fail)
            have HP : Hid (At ((w3.alloc (.cells #[.int .u8 c.toNat, .int .u8 i.toNat, .string Y] 23)).drewN nq) w.heap.size c i d) := Lib.hid HP.out
            have HA : Hid (At ((w3.alloc (.cells #[.int .u8 c.toNat, .int .u8 i.toNat, .string Y] 23)).drewN nq) w1.heap.size (7 : UInt8) id DA) := Lib.hid HA.out
            have HB : Hid (At ((w3.alloc (.cells #[.int .u8 c.toNat, .int .u8 i.toNat, .string Y] 23)).drewN nq) w2.heap.size (8 : UInt8) id DB) := Lib.hid HB.out
            have HX : Hid (At ((w3.alloc (.cells #[.int .u8 c.toNat, .int .u8 i.toNat, .string Y] 23)).drewN nq) w3.heap.size c i Y) := Lib.hid HX.out
            have HH3 := Lib.hid (HH3.out.drewN' nq)
            clear cP0 cP1 cP2 cA0 cA1 cA2 cB0 cB1 cB2 cX0 cX1 cX2
            generalize (w3.alloc (.cells #[.int .u8 c.toNat, .int .u8 i.toNat, .string Y] 23)).drewN nq = U at *
            have cP0 := HP.out.c0
            have cP1 := HP.out.c1
            have cP2 := HP.out.c2
            have cA0 := HA.out.c0
            have cA1 := HA.out.c1
            have cA2 := HA.out.c2
            have cB0 := HB.out.c0
            have cB1 := HB.out.c1
            have cB2 := HB.out.c2
            have cX0 := HX.out.c0
            have cX1 := HX.out.c1
            have cX2 := HX.out.c2
            go_wp2_with fail
            refine (R1.out _).mono ?_
            rintro e w4 ⟨rfl, hb4⟩
            have HP := Lib.hid (HP.out.callee hb4)
            have HA := Lib.hid (HA.out.callee hb4)
            have HB := Lib.hid (HB.out.callee hb4)
            have HX := Lib.hid (HX.out.callee hb4)
            have HH4 := Lib.hid (HH3.out.trans (hb4.mono HH3.out.size))
            clear hb4
            have cB0 := HB.out.c0
            have cB1 := HB.out.c1
            have cB2 := HB.out.c2
            go_wp2_with fail
            refine (alive_any _).mono ?_
            rintro e w5 ⟨rfl, hb5⟩
            have HP := Lib.hid (HP.out.callee hb5)
            have HA := Lib.hid (HA.out.callee hb5)
            have HB := Lib.hid (HB.out.callee hb5)
            have HX := Lib.hid (HX.out.callee hb5)
            have HH5 := Lib.hid (HH4.out.trans (hb5.mono HH4.out.size))
            clear hb5
            go_wp2
            go_ret
            exact ⟨rfl, HH5.out⟩

set_option maxRecDepth 100000 in
theorem lifted (os : Os) (started : os.Started) (H : Type) (enc : TypeId × Value → H) :
    ReturnsInHanded {} Try.checked os 5 .any (Rows.rejectSaysSpec.pre6 enc Try.prog Try.f5 Rows.rejectSaysRow.domain false) (Rows.rejectSaysSpec.post enc Try.prog Try.f5 false true false false) := by
  refine returnsInHanded_of_change_sized (C := Try.checked) own started (by kernel_rfl) Try.func5
    (ChangeSpec.witness6 (enc := enc) (C := Try.checked) false ⟨#[], #[.int .u8 0, .agg #[.int .u8 0, .int .u8 0, .string ByteArray.empty], .int .u16 0, .string ByteArray.empty, .int .u16 0], []⟩ 8 (by kernel_rfl) (by kernel_rfl) (by kernel_rfl) (by kernel_rfl)) ?_
  intro W base args ds gs before hval0 hW hcnd hsz0 _
  have hsz : (DataW.weightsEach Try.prog (Try.f5.params.toList ++ Rows.rejectSaysSpec.plain.varTypes Try.prog) (ds ++ gs)).all (· ≤ reachBytes) = true := hsz0
  have hval : ∀ (j : Nat) t v, Try.f5.params[j]? = some t → args[j]? = some v → Value.okWide Try.prog W .any base t v := hval0
  have hW' := hW
  obtain ⟨p, q, hA0, hV, rfl, hfz, hnd⟩ := hW
  have hlt := hW'.lt
  have hA : DataW.TrodAll enc Try.prog W 0 (fun _ => true) true Try.f5.params.toList args.toList ds p := hA0
  rw [Try.params5] at hA hval hsz
  obtain ⟨v0, vs0, d0, ds0, p0, q0, hargs, rfl, rfl, h0, r0⟩ := trodAll_cons hA
  obtain ⟨v1, vs1, d1, ds1, p1, q1, rfl, rfl, rfl, h1, r1⟩ := trodAll_cons r0
  obtain ⟨v2, vs2, d2, ds2, p2, q2, rfl, rfl, rfl, h2, r2⟩ := trodAll_cons r1
  obtain ⟨v3, vs3, d3, ds3, p3, q3, rfl, rfl, rfl, h3, r3⟩ := trodAll_cons r2
  obtain ⟨v4, vs4, d4, ds4, p4, q4, rfl, rfl, rfl, h4, r4⟩ := trodAll_cons r3
  obtain ⟨rfl, rfl, rfl⟩ := trodAll_nil r4
  obtain rfl : args = #[v0, v1, v2, v3, v4] := by cases args; simp_all
  obtain ⟨rfl, rfl⟩ := trodVars_none hV
  obtain ⟨z0, rfl, rfl, rfl, w0⟩ := open_int Try.underlying5 (hval 0 5 v0 rfl rfl) h0
  have b0 := bounds_u8 w0
  obtain ⟨a0, rfl⟩ := u8_of (z := z0) (by omega) (by omega)
  obtain ⟨c1, i1, a1, rfl, z1⟩ := pk3_of Try.underlying23 (by kernel_rfl) (by kernel_rfl) Try.underlying5 Try.underlying5 Try.underlying9 (hval 1 23 v1 rfl rfl) h1 (fun n hn => of_decide_eq_true (List.all_eq_true.1 hsz n (DataW.weights_mem_each (j := 1) (t := 23) rfl rfl n hn)))
  obtain ⟨z2, rfl, rfl, rfl, w2⟩ := open_int Try.underlying24 (hval 2 24 v2 rfl rfl) h2
  obtain ⟨a2, rfl⟩ : ∃ n : Nat, z2 = n := ⟨z2.toNat, by have := bounds_u16 w2; omega⟩
  have b2 := bounds_u16 w2
  obtain ⟨a3, rfl, rfl, rfl, w3⟩ := open_string Try.underlying9 (hval 3 9 v3 rfl rfl) h3
  obtain ⟨z4, rfl, rfl, rfl, w4⟩ := open_int Try.underlying24 (hval 4 24 v4 rfl rfl) h4
  obtain ⟨a4, rfl⟩ : ∃ n : Nat, z4 = n := ⟨z4.toNat, by have := bounds_u16 w4; omega⟩
  have b4 := bounds_u16 w4
  have z3 : a3.size ≤ 140737488351232 := by have h := sized_string hsz (j := 3) (t := 9) rfl rfl; rw [Array.length_toList] at h; exact h
  clear hA0 hval0 hsz0
  exact (walk a0 c1 i1 a1 a3 a2 a4 (by omega) (by omega) z1 z3 W).mono fun e W' ⟨he, hb⟩ => ⟨_, he, law_post (t := 4) laidOut (by kernel_rfl) rfl rfl Try.underlying4 ⟨rfl, rfl, rfl⟩ hW' hb⟩

theorem over : Rows.rejectSaysRow.holds Try.pinned (OpenSpec.ofChange Rows.rejectSaysSpec) :=
  OpenClaim.holds_of_wide 5 Try.f5 rfl rfl rfl rfl rfl rfl rfl ⟨rfl, rfl, rfl, rfl, rfl⟩ rfl rfl rfl rfl rfl (by kernel_rfl) Try.func5 (by kernel_rfl)
    (of_decide_eq_true (by kernel_rfl)) (by unfold Func.isWrapper; first | (rw [if_pos (by decide +kernel)]; kernel_rfl) | (rw [if_neg (by decide +kernel)]; exact ⟨rfl, rfl⟩))
    (fun os started H enc _ => lifted os started H enc)

theorem proved : Rows.RejectSaysSaid :=
  over
#print axioms proved
end Go.Proofs.Ytfcndljbijcbkaa.RejectSays
