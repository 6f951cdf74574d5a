/- Contracts of the document's Read, Answered and Check. -/
import Derived.Test.YtipcmkcllibnfaaDoorChpR
namespace Go.Proofs.YtipcmkcllibnfaaDoor.Chp
open Go.RowKit Go.Proofs.YtipcmkcllibnfaaDoor.Oct Go.Proofs.YtipcmkcllibnfaaDoor.Row Go.Proofs.YtipcmkcllibnfaaDoor.Mem Go.Proofs.YtipcmkcllibnfaaDoor.Md5

theorem rempty_no (v : List UInt8) (h : v ≠ []) : (bOf v).toList.isEmpty = false := by
  rw [toList_bOf]
  cases v with
  | nil => exact absurd rfl h
  | cons => rfl
theorem rempty_yes : (bOf []).toList.isEmpty = true := by rw [toList_bOf]; rfl
theorem ne_of {c k : UInt8} (h : c ≠ k) {z : Int} (hz : z = (k.toNat : Int)) : ((c.toNat : Int) != z) = true := by
  rw [bne_iff_ne, hz]; intro e; exact h (UInt8.toNat_inj.1 (by omega))
set_option maxHeartbeats 2000000 in
set_option maxRecDepth 100000 in
theorem rread_no (c i : UInt8) (d : ByteArray) (w : World) (h1 : c ≠ 1) (h2 : c ≠ 2) :
    Calls Tryd.prog 15 #[.agg #[.int .u8 c.toNat, .int .u8 i.toNat, .string d]] w fun e w' => e = .returned (rdV c d) ∧ Below w.heap.size w w' := by
  have HB : Hid (Below w.heap.size w (w.alloc (.cells #[.int .u8 c.toNat, .int .u8 i.toNat, .string d] 23))) := (Below.refl _ w).alloc (Nat.le_refl _) _
  rw [rdV_bad (rd_type d (fun e => e.elim h1 h2)) (by decide)]
  have k1 := ne_of h1 (z := 1) rfl
  have k2 := ne_of h2 (z := 2) rfl
  clear h1 h2
  go_enter Tryd.func15, Tryd.ntmps15
  go_wp2
  go_ret3
  exact ⟨rfl, HB.out⟩
/-- Which of the two codes it is, or neither. -/
theorem code_two {c : UInt8} (hc : c = 1 ∨ c = 2) : ((c.toNat : Int) != 1) = false ∨ (((c.toNat : Int) != 1) = true ∧ ((c.toNat : Int) != 2) = false) := by
  rcases hc with rfl | rfl
  · exact .inl rfl
  · exact .inr ⟨rfl, rfl⟩
set_option maxHeartbeats 2000000 in
set_option maxRecDepth 100000 in
theorem rread_yes (c i : UInt8) (d : ByteArray) (w : World) (hd : d.size ≤ maxLen) (hc : c = 1 ∨ c = 2) (hk : ((c.toNat : Int) != 1) = false ∨ (((c.toNat : Int) != 1) = true ∧ ((c.toNat : Int) != 2) = false)) :
    Calls Tryd.prog 15 #[.agg #[.int .u8 c.toNat, .int .u8 i.toNat, .string d]] w fun e w' => e = .returned (rdV c d) ∧ Below w.heap.size w w' := by
  have HB : Hid (Below w.heap.size w (w.alloc (.cells #[.int .u8 c.toNat, .int .u8 i.toNat, .string d] 23))) := (Below.refl _ w).alloc (Nat.le_refl _) _
  have RD := Lib.hid (fun W => rread8_any d W hd)
  unfold maxLen at hd
  rcases hr : r8 d.toList with _ | ⟨v, r⟩
  · have R1 := read_none d hr
    rw [R1.1, R1.2.1, R1.2.2] at RD
    rw [rdV_bad (rd_end hc hr) (by decide)]
    clear R1 hr hc
    rcases hk with k1 | ⟨k1, k2⟩
    all_goals (
      go_enter Tryd.func15, Tryd.ntmps15
      go_wp2_with fail
      refine (RD.out _).mono ?_
      rintro e w3 ⟨rfl, q, rfl⟩
      go_wp2
      go_ret3
      exact ⟨rfl, HB.out.drewN' q⟩)
  · have R1 := read_some d v r hr
    rw [R1.1, R1.2.1, R1.2.2] at RD
    have hl := r8_len hr
    have hz : (bOf r).size ≤ d.size := by rw [size_bOf, size_toList]; omega
    have hz9 : (bOf r).size ≤ 2 ^ 63 - 1 := by omega
    by_cases hv : v = []
    · subst hv
      rw [rdV_bad (rd_form hc hr) (by decide)]
      have hz1 := rempty_yes
      clear R1 hr hc hl hz
      rcases hk with k1 | ⟨k1, k2⟩
      all_goals (
        go_enter Tryd.func15, Tryd.ntmps15
        go_wp2_with fail
        refine (RD.out _).mono ?_
        rintro e w3 ⟨rfl, q, rfl⟩
        go_wp2
        go_ret3
        exact ⟨rfl, HB.out.drewN' q⟩)
    · have hv1 := rempty_no v hv
      by_cases h5 : 255 < r.length
      · have h6 : (255 : Int) < ((bOf r).size : Int) := by rw [size_bOf]; omega
        rw [rdV_bad (rd_long hc hr hv h5) (by decide)]
        clear R1 hr hc hl h5 hv
        rcases hk with k1 | ⟨k1, k2⟩
        all_goals (
          go_enter Tryd.func15, Tryd.ntmps15
          go_wp2_with fail
          refine (RD.out _).mono ?_
          rintro e w3 ⟨rfl, q, rfl⟩
          go_wp2
          go_ret3
          exact ⟨rfl, HB.out.drewN' q⟩)
      · have h6 : ¬ (255 : Int) < ((bOf r).size : Int) := by rw [size_bOf]; omega
        rw [rdV_ok hc hr hv h5]
        clear R1 hr hc hl h5 hv
        rcases hk with k1 | ⟨k1, k2⟩
        all_goals (
          go_enter Tryd.func15, Tryd.ntmps15
          go_wp2_with fail
          refine (RD.out _).mono ?_
          rintro e w3 ⟨rfl, q, rfl⟩
          go_wp2
          go_ret3
          exact ⟨rfl, HB.out.drewN' q⟩)
theorem rread_any (c i : UInt8) (d : ByteArray) (w : World) (hd : d.size ≤ maxLen) :
    Calls Tryd.prog 15 #[.agg #[.int .u8 c.toNat, .int .u8 i.toNat, .string d]] w fun e w' => e = .returned (rdV c d) ∧ Below w.heap.size w w' := by
  by_cases h1 : c = 1
  · exact rread_yes c i d w hd (.inl h1) (code_two (.inl h1))
  · by_cases h2 : c = 2
    · exact rread_yes c i d w hd (.inr h2) (code_two (.inr h2))
    · exact rread_no c i d w h1 h2

theorem code_three {c : UInt8} (hc : c = 3 ∨ c = 4) : ((c.toNat : Int) != 3) = false ∨ (((c.toNat : Int) != 3) = true ∧ ((c.toNat : Int) != 4) = false) := by
  rcases hc with rfl | rfl
  · exact .inl rfl
  · exact .inr ⟨rfl, rfl⟩
theorem eq_three (c : UInt8) : ((c.toNat : Int) == 3) = decide (c = 3) := by
  rw [Bool.eq_iff_iff, beq_iff_eq, decide_eq_true_eq]
  exact ⟨fun e => UInt8.toNat_inj.1 (by show c.toNat = 3; omega), fun e => by rw [e]; rfl⟩
set_option maxHeartbeats 2000000 in
set_option maxRecDepth 100000 in
theorem ranswered_any (c i : UInt8) (d : ByteArray) (w : World) (hd : d.size ≤ maxLen) :
    Calls Tryd.prog 17 #[.agg #[.int .u8 c.toNat, .int .u8 i.toNat, .string d]] w fun e w' => e = .returned (anV c d) ∧ Below w.heap.size w w' := by
  have HB : Hid (Below w.heap.size w (w.alloc (.cells #[.int .u8 c.toNat, .int .u8 i.toNat, .string d] 23))) := (Below.refl _ w).alloc (Nat.le_refl _) _
  unfold maxLen at hd
  by_cases hc : c = 3 ∨ c = 4
  · have hk := code_three hc
    by_cases h5 : 255 < d.size
    · have h6 : (255 : Int) < (d.size : Int) := by omega
      rw [anV_bad (an_long hc h5) (by decide)]
      clear hc h5
      rcases hk with k1 | ⟨k1, k2⟩
      all_goals (
        go_enter Tryd.func17, Tryd.ntmps17
        go_wp2
        go_ret3
        exact ⟨rfl, HB.out⟩)
    · have h6 : ¬ (255 : Int) < (d.size : Int) := by omega
      rw [anV_ok (an_ok hc h5)]
      have h3 := eq_three c
      generalize decide (c = 3) = b at *
      clear hc h5
      rcases hk with k1 | ⟨k1, k2⟩
      all_goals (
        go_enter Tryd.func17, Tryd.ntmps17
        go_wp2
        go_quiet (fail)
        go_wp2
        go_ret3
        exact ⟨rfl, HB.out.drewN' _⟩)
  · have k1 := ne_of (fun e => hc (.inl e)) (z := 3) rfl
    have k2 := ne_of (fun e => hc (.inr e)) (z := 4) rfl
    rw [anV_bad (an_type d hc) (by decide)]
    clear hc
    go_enter Tryd.func17, Tryd.ntmps17
    go_wp2
    go_ret3
    exact ⟨rfl, HB.out⟩

set_option maxHeartbeats 2000000 in
set_option maxRecDepth 100000 in
theorem rcheck_any (c i : UInt8) (d : ByteArray) (id : UInt8) (s v : ByteArray) (w : World) (hd : d.size ≤ maxLen) (hs : s.size ≤ 8192) (hv : v.size ≤ 8192) :
    Calls Tryd.prog 19 #[.agg #[.int .u8 c.toNat, .int .u8 i.toNat, .string d], .int .u8 id.toNat, .string s, .string v] w fun e w' => e = .returned (.bool (ckB c i d id s v)) ∧ Below w.heap.size w w' := by
  have HP : Hid (Blk (w.alloc (.cells #[.int .u8 c.toNat, .int .u8 i.toNat, .string d] 23)) w.heap.size [.int .u8 c.toNat, .int .u8 i.toNat, .string d] 23) := blk_new w _ _
  have HB : Hid (Below w.heap.size w (w.alloc (.cells #[.int .u8 c.toNat, .int .u8 i.toNat, .string d] 23))) := (Below.refl _ w).alloc (Nat.le_refl _) _
  have KR := Lib.hid (fun W => rread_any c i d W hd)
  have KQ := Lib.hid (fun W => rvalue_any id s v W hs hv)
  clear hd hs hv
  by_cases h0 : rdE c d = 0
  · have hV : rdV c d = .tuple #[.string (rdA c d), .string (rdB c d), .int .i64 0] := by rw [rdV, h0]
    rw [hV] at KR
    clear hV
    by_cases h2 : c = 2
    · by_cases h3 : i = id
      · subst h3
        have hE := str_eq (rdA c d) (dg i s v)
        have hid : ((i.toNat : Int) == i.toNat) = true := by simp
        have hc2 : ((c.toNat : Int) == 2) = true := by rw [h2]; rfl
        rw [show ckB c i d i s v = decide (rdA c d = dg i s v) from by subst h2; exact ck_val h0 i s v]
        generalize decide (rdA c d = dg i s v) = r at *
        generalize dg i s v = D at *
        generalize rdA c d = x at *
        generalize rdB c d = y at *
        clear h0 h2
        go_enter Tryd.func19, Tryd.ntmps19
        go_wp2_with fail
        refine (KR.out _).mono ?_
        rintro e w2 ⟨rfl, hb⟩
        have HP2 := Lib.hid (HP.out.callee hb)
        have HB2 := Lib.hid (HB.out.trans (hb.mono HB.out.size))
        clear hb
        have p0 := HP2.out.at_ 0
        have p1 := HP2.out.at_ 1
        have p2 := HP2.out.at_ 2
        simp only [List.getElem?_cons_zero, List.getElem?_cons_succ] at p0 p1 p2
        go_wp2_with fail
        refine (KQ.out _).mono ?_
        rintro e w4 ⟨rfl, hb⟩
        have HB4 := Lib.hid (HB2.out.trans (hb.mono HB2.out.size))
        clear hb
        go_wp2
        go_ret
        exact ⟨rfl, HB4.out⟩
      · have hid : ((i.toNat : Int) == id.toNat) = false := by
          rw [beq_eq_false_iff_ne]; intro e; exact h3 (UInt8.toNat_inj.1 (by omega))
        have hc2 : ((c.toNat : Int) == 2) = true := by rw [h2]; rfl
        rw [ck_id h3]
        generalize rdA c d = x at *
        generalize rdB c d = y at *
        clear h0 h2 h3
        go_enter Tryd.func19, Tryd.ntmps19
        go_wp2_with fail
        refine (KR.out _).mono ?_
        rintro e w2 ⟨rfl, hb⟩
        have HP2 := Lib.hid (HP.out.callee hb)
        have HB2 := Lib.hid (HB.out.trans (hb.mono HB.out.size))
        clear hb
        have p0 := HP2.out.at_ 0
        have p1 := HP2.out.at_ 1
        have p2 := HP2.out.at_ 2
        simp only [List.getElem?_cons_zero, List.getElem?_cons_succ] at p0 p1 p2
        go_wp2
        go_ret
        exact ⟨rfl, HB2.out⟩
    · have hc2 : ((c.toNat : Int) == 2) = false := by
        rw [beq_eq_false_iff_ne]; intro e; exact h2 (UInt8.toNat_inj.1 (by show c.toNat = 2; omega))
      rw [ck_code h2]
      generalize rdA c d = x at *
      generalize rdB c d = y at *
      clear h0 h2
      go_enter Tryd.func19, Tryd.ntmps19
      go_wp2_with fail
      refine (KR.out _).mono ?_
      rintro e w2 ⟨rfl, hb⟩
      have HP2 := Lib.hid (HP.out.callee hb)
      have HB2 := Lib.hid (HB.out.trans (hb.mono HB.out.size))
      clear hb
      have p0 := HP2.out.at_ 0
      have p1 := HP2.out.at_ 1
      have p2 := HP2.out.at_ 2
      simp only [List.getElem?_cons_zero, List.getElem?_cons_succ] at p0 p1 p2
      go_wp2
      go_ret
      exact ⟨rfl, HB2.out⟩
  · rw [ck_bad h0]
    have h1 : (rdE c d == 0) = false := by rw [beq_eq_false_iff_ne]; exact h0
    unfold rdV at KR
    generalize rdA c d = x at *
    generalize rdB c d = y at *
    generalize rdE c d = E at *
    clear h0
    go_enter Tryd.func19, Tryd.ntmps19
    go_wp2_with fail
    refine (KR.out _).mono ?_
    rintro e w2 ⟨rfl, hb⟩
    have HB2 := Lib.hid (HB.out.trans (hb.mono HB.out.size))
    clear hb
    go_wp2
    go_ret
    exact ⟨rfl, HB2.out⟩
end Go.Proofs.YtipcmkcllibnfaaDoor.Chp
