/- Contracts of the document's may, one, Value, Challenge, Response and Answer. -/
import Derived.Test.YtipcmkcllibnfaaDoorChpPure
import Derived.Test.YtipcmkcllibnfaaDoorMd5C
import Derived.Test.YtipcmkcllibnfaaDoorRnum
import Derived.Test.YtipcmkcllibnfaaDoorRes
namespace Go.Proofs.YtipcmkcllibnfaaDoor.Chp
open Go.RowKit Go.Proofs.YtipcmkcllibnfaaDoor.Oct Go.Proofs.YtipcmkcllibnfaaDoor.Row Go.Proofs.YtipcmkcllibnfaaDoor.Mem Go.Proofs.YtipcmkcllibnfaaDoor.Md5

set_option maxHeartbeats 1000000 in
set_option maxRecDepth 100000 in
theorem rmay_any (v n : ByteArray) (w : World) (hv : v.size ≤ maxLen) (hn : n.size ≤ maxLen) :
    Calls Tryd.prog 23 #[.string v, .string n] w fun e w' => e = .returned (.int .i64 (chE v n)) ∧ w' = w := by
  unfold maxLen at hv hn
  by_cases h1 : v.size < 1
  · rw [chE_arg (.inl h1)]
    have k1 : (v.size : Int) < 1 := by omega
    go_enter Tryd.func23, Tryd.ntmps23
    go_wp2
    go_ret
    exact ⟨rfl, rfl⟩
  · have k1 : ¬ (v.size : Int) < 1 := by omega
    by_cases h2 : 255 < v.size
    · rw [chE_arg (.inr h2)]
      have k2 : (255 : Int) < (v.size : Int) := by omega
      go_enter Tryd.func23, Tryd.ntmps23
      go_wp2
      go_ret
      exact ⟨rfl, rfl⟩
    · have k2 : ¬ (255 : Int) < (v.size : Int) := by omega
      rw [chE_la (by omega), laE]
      by_cases h3 : 255 < n.size
      · rw [if_pos h3]
        have k3 : (255 : Int) < (n.size : Int) := by omega
        go_enter Tryd.func23, Tryd.ntmps23
        go_wp2
        go_ret
        exact ⟨rfl, rfl⟩
      · rw [if_neg h3]
        have k3 : ¬ (255 : Int) < (n.size : Int) := by omega
        go_enter Tryd.func23, Tryd.ntmps23
        go_wp2
        go_ret
        exact ⟨rfl, rfl⟩
theorem results_cell1 {P : Program} {fn : Func} {p : Tmp} {ty : TypeId} (h : fn.results = #[.cell p ty]) (tmps : Array Value) (w : World) (g : Nat) (cs : List Value) (tb : TypeId) (d : TypeDesc)
    (hp : tmps.getD p undef = .pointer (some ⟨g, 0, none⟩)) (hg : Blk w g cs tb) (hu : P.underlying ty = some d) (hd : (match d with | .struct _ | .array _ _ => true | _ => false) = true) (hi : (P.info? ty).map (·.size) = some cs.toArray.size) :
    (results fn tmps).run P w = .ok (.agg cs.toArray) w := by
  have hp' : tmps[p]?.getD undef = .pointer (some ⟨g, 0, none⟩) := by simpa using hp
  simp only [List.size_toArray] at hi
  simp [results, h, hp', asAddr, run_loadVar_row w g tb ty cs.toArray (0, 0) d hg hu hd (by simpa using hi)]

set_option maxHeartbeats 2000000 in
set_option maxRecDepth 100000 in
theorem rone_any (c i : UInt8) (v n : ByteArray) (w : World) (hv : v.size ≤ 255) (hn : n.size ≤ 255) :
    Calls Tryd.prog 24 #[.int .u8 c.toNat, .int .u8 i.toNat, .string v, .string n] w fun e w' => e = .returned (.agg #[.int .u8 c.toNat, .int .u8 i.toNat, .string (vn v n)]) ∧ Below w.heap.size w w' := by
  obtain ⟨W, hW, HW⟩ := res_one w
  obtain ⟨g, hg⟩ : ∃ g, w.heap.size = g := ⟨_, rfl⟩
  rw [hg] at HW
  have HR := HW
  clear HW
  have HN : Hid (Calls Tryd.prog 34 #[.int .u64 (v.size : Int), .int .i64 1] W fun e w' => e = .returned (.string (bOf (numS v.size 1))) ∧ Below W.heap.size W w') := rnum_any v.size 1 W (by omega) (by omega)
  have hz : (bOf (numS v.size 1)).size ≤ 1 := by rw [size_bOf, numS_length]; exact Nat.le_refl _
  unfold vn
  generalize bOf (numS v.size 1) = B at *
  have hv1 : (v.size : Int) ≤ 255 := by omega
  go_enter Tryd.func24, Tryd.ntmps24
  go_wp2_with fail
  refine HN.out.mono ?_
  rintro e w1 ⟨rfl, hb⟩
  clear hW
  have HR2 := Lib.hid (HR.out.callee hb)
  clear hb
  have c0 := HR2.out.c0
  have c1 := HR2.out.c1
  have c2 := HR2.out.c2
  have f0 := HR2.out.f 0
  have f1 := HR2.out.f 1
  have f2 := HR2.out.f 2
  go_wp2
  have HP := HR2.out.put c.toNat i.toNat (B ++ v ++ n)
  (try simp only [Exit.inBlock, Exit.then])
  refine bodyPost_ret (results_cell1 rfl _ _ g _ _ _ rfl HP.1 Tryd.underlying23 rfl (by kernel_rfl)) rfl ?_
  exact ⟨rfl, by first | exact HP.2 | (have h2 := HP.2; rw [hg] at h2; exact h2)⟩

theorem one_byte' (i : UInt8) : strOfNums [(i.toNat : Int)] = bOf [i] := by
  rw [nums_bOf]
  simp
set_option maxHeartbeats 2000000 in
set_option maxRecDepth 100000 in
theorem rvalue_any (i : UInt8) (s v : ByteArray) (w : World) (hs : s.size ≤ 8192) (hv : v.size ≤ 8192) :
    Calls Tryd.prog 26 #[.int .u8 i.toNat, .string s, .string v] w fun e w' => e = .returned (.string (dg i s v)) ∧ Below w.heap.size w w' := by
  have HB : Hid (Below w.heap.size w (w.alloc (.cells #[.int .u8 i.toNat] 5))) := (Below.refl _ w).alloc (Nat.le_refl _) _
  have hz : (bOf [i]).size ≤ 1 := by rw [size_bOf]; exact Nat.le_refl _
  have HS : Hid (∀ W, Calls Tryd.prog 35 #[.string (bOf [i] ++ s ++ v)] W fun e w' => e = .returned (.string (dg i s v)) ∧ Below W.heap.size W w') := fun W => by
    have h := rsum_any (bOf [i] ++ s ++ v) W (by rw [ByteArray.size_append, ByteArray.size_append]; omega)
    have e : bOf (md5 (bOf [i] ++ s ++ v).toList) = dg i s v := by
      rw [dg]; congr 2; rw [append_bOf, toList_bOf, append_bOf, toList_bOf, toList_bOf]; simp
    rw [e] at h
    exact h
  have hcv := Oct.conv_new (P := Tryd.prog) w 39 9 5 5 (by kernel_rfl) (by kernel_rfl) (by kernel_rfl) [(i.toNat : Int)] 1
  rw [one_byte'] at hcv
  simp only [List.length_cons, List.length_nil, List.map_cons, List.map_nil] at hcv
  generalize dg i s v = D at *
  generalize bOf [i] = I at *
  go_enter Tryd.func26, Tryd.ntmps26
  go_wp2_with fail
  refine (HS.out _).mono ?_
  rintro e w1 ⟨rfl, hb⟩
  have HB3 := Lib.hid (HB.out.trans (hb.mono HB.out.size))
  clear hb
  go_wp2
  go_ret
  exact ⟨rfl, HB3.out⟩

theorem chE_zero {v n : ByteArray} (h : chE v n = 0) : 1 ≤ v.size ∧ v.size ≤ 255 ∧ n.size ≤ 255 := by
  rw [chE] at h
  by_cases h1 : v.size < 1 ∨ 255 < v.size
  · rw [if_pos h1] at h; cases h
  · rw [if_neg h1] at h
    by_cases h2 : 255 < n.size
    · rw [if_pos h2] at h; cases h
    · omega
set_option maxHeartbeats 2000000 in
set_option maxRecDepth 100000 in
theorem rchallenge_any (i : UInt8) (v n : ByteArray) (w : World) (hv : v.size ≤ maxLen) (hn : n.size ≤ maxLen) :
    Calls Tryd.prog 9 #[.int .u8 i.toNat, .string v, .string n] w fun e w' => e = .returned (pkV (chE v n) 1 i (vn v n)) ∧ Below w.heap.size w w' := by
  obtain ⟨W, hW, HW⟩ := res_one w
  obtain ⟨g, hg⟩ : ∃ g, w.heap.size = g := ⟨_, rfl⟩
  rw [hg] at HW
  have HR := HW
  clear HW
  have HV := Lib.hid (fun W => rmay_any v n W hv hn)
  by_cases h : chE v n = 0
  · have HO : Hid (∀ W : World, Calls Tryd.prog 24 #[.int .u8 1, .int .u8 i.toNat, .string v, .string n] W fun e w' => e = .returned (.agg #[.int .u8 1, .int .u8 i.toNat, .string (vn v n)]) ∧ Below W.heap.size W w') := fun W => rone_any 1 i v n W (chE_zero h).2.1 (chE_zero h).2.2
    rw [pkV_ok h]
    rw [h] at HV
    generalize vn v n = D at *
    clear h hv hn
    go_enter Tryd.func9, Tryd.ntmps9
    go_wp2_with fail
    refine (HV.out _).mono ?_
    rintro e w1 ⟨rfl, rfl⟩
    go_wp2_with fail
    refine (HO.out _).mono ?_
    rintro e w1 ⟨rfl, hb⟩
    have HR2 := Lib.hid (HR.out.callee (by first | exact hb | (rw [← hW]; exact hb)))
    clear hb hW
    have c0 := HR2.out.c0
    have c1 := HR2.out.c1
    have c2 := HR2.out.c2
    have f0 := HR2.out.f 0
    have f1 := HR2.out.f 1
    have f2 := HR2.out.f 2
    go_wp2
    have HP := HR2.out.put 1 i.toNat D
    (try simp only [Exit.inBlock, Exit.then])
    refine bodyPost_ret (results_row1 rfl _ _ g _ _ _ rfl HP.1 Tryd.underlying23 rfl (by kernel_rfl)) rfl ?_
    exact ⟨rfl, by first | exact HP.2 | (have h2 := HP.2; rw [hg] at h2; exact h2)⟩
  · rw [pkV_no h]
    have h0 : (chE v n == 0) = false := by rw [beq_eq_false_iff_ne]; exact h
    generalize chE v n = E at *
    clear h hv hn
    go_enter Tryd.func9, Tryd.ntmps9
    go_wp2_with fail
    refine (HV.out _).mono ?_
    rintro e w1 ⟨rfl, rfl⟩
    clear hW
    have c0 := HR.out.c0
    have c1 := HR.out.c1
    have c2 := HR.out.c2
    have f0 := HR.out.f 0
    have f1 := HR.out.f 1
    have f2 := HR.out.f 2
    go_wp2
    have HP := HR.out.put 0 0 (bOf [])
    (try simp only [Exit.inBlock, Exit.then])
    refine bodyPost_ret (results_row1 rfl _ _ g _ _ _ rfl HP.1 Tryd.underlying23 rfl (by kernel_rfl)) rfl ?_
    exact ⟨rfl, by first | exact HP.2 | (have h2 := HP.2; rw [hg] at h2; exact h2)⟩
set_option maxHeartbeats 2000000 in
set_option maxRecDepth 100000 in
theorem rresponse_any (i : UInt8) (s v n : ByteArray) (w : World) (hs : s.size ≤ 8192) (hv : v.size ≤ 8192) (hn : n.size ≤ maxLen) :
    Calls Tryd.prog 11 #[.int .u8 i.toNat, .string s, .string v, .string n] w fun e w' => e = .returned (pkV (chE v n) 2 i (vn (dg i s v) n)) ∧ Below w.heap.size w w' := by
  obtain ⟨W, hW, HW⟩ := res_one w
  obtain ⟨g, hg⟩ : ∃ g, w.heap.size = g := ⟨_, rfl⟩
  rw [hg] at HW
  have HR := HW
  clear HW
  have HV := Lib.hid (fun W => rmay_any v n W (by unfold maxLen; omega) hn)
  by_cases h : chE v n = 0
  · have HO : Hid (∀ W : World, Calls Tryd.prog 24 #[.int .u8 2, .int .u8 i.toNat, .string (dg i s v), .string n] W fun e w' => e = .returned (.agg #[.int .u8 2, .int .u8 i.toNat, .string (vn (dg i s v) n)]) ∧ Below W.heap.size W w') := fun W => rone_any 2 i (dg i s v) n W (by rw [dg_size]; omega) (chE_zero h).2.2
    have HU := Lib.hid (fun W => rvalue_any i s v W hs hv)
    rw [pkV_ok h]
    rw [h] at HV
    generalize vn (dg i s v) n = D at *
    generalize dg i s v = G at *
    clear h hv hn hs
    go_enter Tryd.func11, Tryd.ntmps11
    go_wp2_with fail
    refine (HV.out _).mono ?_
    rintro e w1 ⟨rfl, rfl⟩
    go_wp2_with fail
    refine (HU.out _).mono ?_
    rintro e w1 ⟨rfl, hb⟩
    have HR1 := Lib.hid (HR.out.callee (by first | exact hb | (rw [← hW]; exact hb)))
    clear hb hW
    go_wp2_with fail
    refine (HO.out _).mono ?_
    rintro e w2 ⟨rfl, hb⟩
    have HR2 := Lib.hid (HR1.out.callee hb)
    clear hb
    have c0 := HR2.out.c0
    have c1 := HR2.out.c1
    have c2 := HR2.out.c2
    have f0 := HR2.out.f 0
    have f1 := HR2.out.f 1
    have f2 := HR2.out.f 2
    go_wp2
    have HP := HR2.out.put 2 i.toNat D
    (try simp only [Exit.inBlock, Exit.then])
    refine bodyPost_ret (results_row1 rfl _ _ g _ _ _ rfl HP.1 Tryd.underlying23 rfl (by kernel_rfl)) rfl ?_
    exact ⟨rfl, by first | exact HP.2 | (have h2 := HP.2; rw [hg] at h2; exact h2)⟩
  · rw [pkV_no h]
    have h0 : (chE v n == 0) = false := by rw [beq_eq_false_iff_ne]; exact h
    generalize chE v n = E at *
    clear h hv hn
    go_enter Tryd.func11, Tryd.ntmps11
    go_wp2_with fail
    refine (HV.out _).mono ?_
    rintro e w1 ⟨rfl, rfl⟩
    clear hW
    have c0 := HR.out.c0
    have c1 := HR.out.c1
    have c2 := HR.out.c2
    have f0 := HR.out.f 0
    have f1 := HR.out.f 1
    have f2 := HR.out.f 2
    go_wp2
    have HP := HR.out.put 0 0 (bOf [])
    (try simp only [Exit.inBlock, Exit.then])
    refine bodyPost_ret (results_row1 rfl _ _ g _ _ _ rfl HP.1 Tryd.underlying23 rfl (by kernel_rfl)) rfl ?_
    exact ⟨rfl, by first | exact HP.2 | (have h2 := HP.2; rw [hg] at h2; exact h2)⟩
set_option maxHeartbeats 2000000 in
set_option maxRecDepth 100000 in
theorem ranswer_any (i : UInt8) (b : Bool) (n : ByteArray) (w : World) (hn : n.size ≤ maxLen) :
    Calls Tryd.prog 13 #[.int .u8 i.toNat, .bool b, .string n] w fun e w' => e = .returned (pkV (laE n) (if b = true then 3 else 4) i n) ∧ Below w.heap.size w w' := by
  obtain ⟨W, hW, HW⟩ := res_one w
  obtain ⟨g, hg⟩ : ∃ g, w.heap.size = g := ⟨_, rfl⟩
  rw [hg] at HW
  have HR := HW
  clear HW
  unfold maxLen at hn
  by_cases h0 : 255 < n.size
  · rw [pkV_no (by rw [laE, if_pos h0]; decide), laE, if_pos h0]
    have hi : (255 : Int) < (n.size : Int) := by omega
    clear h0
    have c0 := HR.out.c0
    have c1 := HR.out.c1
    have c2 := HR.out.c2
    have f0 := HR.out.f 0
    have f1 := HR.out.f 1
    have f2 := HR.out.f 2
    go_enter Tryd.func13, Tryd.ntmps13
    go_wp2_with fail
    have HP := HR.out.put 0 0 (bOf [])
    (try simp only [Exit.inBlock, Exit.then])
    refine bodyPost_ret (results_row1 rfl _ _ g _ _ _ rfl HP.1 Tryd.underlying23 rfl (by kernel_rfl)) rfl ?_
    exact ⟨rfl, by first | exact HP.2 | (have h2 := HP.2; rw [hg] at h2; exact h2)⟩
  · rw [pkV_ok (by rw [laE, if_neg h0])]
    have hi : ¬ (255 : Int) < (n.size : Int) := by omega
    clear h0
    have c0 := HR.out.c0
    have c1 := HR.out.c1
    have c2 := HR.out.c2
    have f0 := HR.out.f 0
    have f1 := HR.out.f 1
    have f2 := HR.out.f 2
    cases b
    · rw [if_neg (by decide)]
      go_enter Tryd.func13, Tryd.ntmps13
      go_wp2_with fail
      have HP := HR.out.put 4 i.toNat n
      (try simp only [Exit.inBlock, Exit.then])
      refine bodyPost_ret (results_row1 rfl _ _ g _ _ _ rfl HP.1 Tryd.underlying23 rfl (by kernel_rfl)) rfl ?_
      exact ⟨rfl, by first | exact HP.2 | (have h2 := HP.2; rw [hg] at h2; exact h2)⟩
    · rw [if_pos rfl]
      go_enter Tryd.func13, Tryd.ntmps13
      go_wp2_with fail
      have HP := HR.out.put 3 i.toNat n
      (try simp only [Exit.inBlock, Exit.then])
      refine bodyPost_ret (results_row1 rfl _ _ g _ _ _ rfl HP.1 Tryd.underlying23 rfl (by kernel_rfl)) rfl ?_
      exact ⟨rfl, by first | exact HP.2 | (have h2 := HP.2; rw [hg] at h2; exact h2)⟩
end Go.Proofs.YtipcmkcllibnfaaDoor.Chp
