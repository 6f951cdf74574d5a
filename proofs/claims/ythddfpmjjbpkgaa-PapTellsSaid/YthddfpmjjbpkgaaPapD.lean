/- Contracts of the document's Asked and Answered. -/
import Derived.Test.YthddfpmjjbpkgaaPapC
namespace Go.Proofs.Ythddfpmjjbpkgaa.Pap
open Go.RowKit Go.Proofs.Ythddfpmjjbpkgaa.Oct Go.Proofs.Ythddfpmjjbpkgaa.Row Go.Proofs.Ythddfpmjjbpkgaa.Mem

theorem rd_one_end {d : List UInt8} (h : r8 d = none) : rdN 1 d = none := by rw [rdN_bad h]
theorem rd_one {d t r : List UInt8} (h : r8 d = some (t, r)) : rdN 1 d = some ([t], r) := by rw [rdN_step h]; rfl
theorem rd_two_end {d : List UInt8} (h : r8 d = none) : rdN 2 d = none := by rw [rdN_bad h]
theorem rd_two_end' {d t r : List UInt8} (h : r8 d = some (t, r)) (h' : r8 r = none) : rdN 2 d = none := by rw [rdN_step h, rd_one_end h']; rfl
theorem rd_two {d t r t' r' : List UInt8} (h : r8 d = some (t, r)) (h' : r8 r = some (t', r')) : rdN 2 d = some ([t, t'], r') := by rw [rdN_step h, rd_one h']; rfl
theorem asV_end {d : ByteArray} (h : rdN 2 d.toList = none) : asV 1 d = .tuple #[.string (bOf []), .string (bOf []), .int .i64 6] := by simp [asV, asT, asE, rd_end h]
theorem asV_form {d : ByteArray} {ts : List (List UInt8)} {r : List UInt8} (h : rdN 2 d.toList = some (ts, r)) (hr : r ≠ []) : asV 1 d = .tuple #[.string (bOf []), .string (bOf []), .int .i64 7] := by simp [asV, asT, asE, rd_form h hr]
theorem asV_ok {d : ByteArray} {t t' : List UInt8} (h : rdN 2 d.toList = some ([t, t'], [])) : asV 1 d = .tuple #[.string (bOf t), .string (bOf t'), .int .i64 0] := by simp [asV, asT, asE, rd_ok h]
theorem anV_end {c : UInt8} (hc : c = 2 ∨ c = 3) {d : ByteArray} (h : rdN 1 d.toList = none) : anV c d = .tuple #[.bool false, .string (bOf []), .int .i64 6] := by simp [anV, anT, anE, anW, hc, rd_end h]
theorem anV_form {c : UInt8} (hc : c = 2 ∨ c = 3) {d : ByteArray} {ts : List (List UInt8)} {r : List UInt8} (h : rdN 1 d.toList = some (ts, r)) (hr : r ≠ []) : anV c d = .tuple #[.bool false, .string (bOf []), .int .i64 7] := by simp [anV, anT, anE, anW, hc, rd_form h hr]
theorem anV_ok {c : UInt8} (hc : c = 2 ∨ c = 3) {d : ByteArray} {t : List UInt8} (h : rdN 1 d.toList = some ([t], [])) : anV c d = .tuple #[.bool (decide (c = 2)), .string (bOf t), .int .i64 0] := by simp [anV, anT, anE, anW, hc, rd_ok h]
theorem not_one {c : UInt8} (hc : c ≠ 1) : ((c.toNat : Int) != 1) = true := by
  rw [bne_iff_ne]
  intro e
  exact hc (UInt8.toNat_inj.1 (by show c.toNat = 1; omega))
theorem not_two {c : UInt8} (hc : c ≠ 2) : ((c.toNat : Int) != 2) = true := by
  rw [bne_iff_ne]
  intro e
  exact hc (UInt8.toNat_inj.1 (by show c.toNat = 2; omega))
theorem not_three {c : UInt8} (hc : c ≠ 3) : ((c.toNat : Int) != 3) = true := by
  rw [bne_iff_ne]
  intro e
  exact hc (UInt8.toNat_inj.1 (by show c.toNat = 3; omega))
theorem is_empty (r : List UInt8) (h : r ≠ []) : (bOf r).toList.isEmpty = false := by
  rw [toList_bOf]
  cases r with
  | nil => exact absurd rfl h
  | cons => rfl
theorem no_empty : (bOf []).toList.isEmpty = true := by rw [toList_bOf]; rfl
theorem rest_le {d t r : List UInt8} (h : r8 d = some (t, r)) {D : ByteArray} (e : D.toList = d) (hd : D.size ≤ maxLen) : (bOf r).size ≤ maxLen := by
  have := (r8_len h).1
  rw [size_bOf]
  rw [size_toList, e] at hd
  omega

set_option maxHeartbeats 1000000 in
set_option maxRecDepth 100000 in
theorem rasked_any (c i : UInt8) (d : ByteArray) (w : World) (hd : d.size ≤ maxLen) :
    Calls Try.prog 12 #[.agg #[.int .u8 c.toNat, .int .u8 i.toNat, .string d]] w fun e w' => e = .returned (asV c d) ∧ Below w.heap.size w w' := by
  have HB : Hid (Below w.heap.size w (w.alloc (.cells #[.int .u8 c.toNat, .int .u8 i.toNat, .string d] 23))) := (Below.refl _ w).alloc (Nat.le_refl _) _
  by_cases hc : c = 1
  · subst hc
    have Hd := Lib.hid hd
    rcases hr : r8 d.toList with _ | ⟨t, r⟩
    · have R1 := Lib.hid (read_none d hr)
      rw [asV_end (rd_two_end hr)]
      clear hr
      go_enter Try.func12, Try.ntmps12
      go_wp2_with fail
      refine (rread8_any d _ Hd.out).mono ?_
      rw [R1.out.1, R1.out.2.1, R1.out.2.2]
      rintro e w1 ⟨rfl, q, rfl⟩
      go_wp2
      go_ret3
      exact ⟨rfl, HB.out.drewN' q⟩
    · have R1 := Lib.hid (read_some d t r hr)
      have Hr := Lib.hid (rest_le hr rfl hd)
      rcases hr' : r8 r with _ | ⟨t', r'⟩
      · have R2 := Lib.hid (read_none (bOf r) (by rw [toList_bOf]; exact hr'))
        rw [asV_end (rd_two_end' hr hr')]
        clear hr hr'
        go_enter Try.func12, Try.ntmps12
        go_wp2_with fail
        refine (rread8_any d _ Hd.out).mono ?_
        rw [R1.out.1, R1.out.2.1, R1.out.2.2]
        rintro e w1 ⟨rfl, q, rfl⟩
        go_wp2_with fail
        refine (rread8_any (bOf r) _ Hr.out).mono ?_
        rw [R2.out.1, R2.out.2.1, R2.out.2.2]
        rintro e w1 ⟨rfl, q', rfl⟩
        go_wp2
        go_ret3
        exact ⟨rfl, HB.out.drewN' _⟩
      · have R2 := Lib.hid (read_some (bOf r) t' r' (by rw [toList_bOf]; exact hr'))
        by_cases h0 : r' = []
        · subst h0
          have h2 := no_empty
          rw [asV_ok (rd_two hr hr')]
          clear hr hr'
          go_enter Try.func12, Try.ntmps12
          go_wp2_with fail
          refine (rread8_any d _ Hd.out).mono ?_
          rw [R1.out.1, R1.out.2.1, R1.out.2.2]
          rintro e w1 ⟨rfl, q, rfl⟩
          go_wp2_with fail
          refine (rread8_any (bOf r) _ Hr.out).mono ?_
          rw [R2.out.1, R2.out.2.1, R2.out.2.2]
          rintro e w1 ⟨rfl, q', rfl⟩
          go_wp2
          go_ret3
          exact ⟨rfl, HB.out.drewN' _⟩
        · have h2 := is_empty r' h0
          rw [asV_form (rd_two hr hr') h0]
          clear hr hr' h0
          go_enter Try.func12, Try.ntmps12
          go_wp2_with fail
          refine (rread8_any d _ Hd.out).mono ?_
          rw [R1.out.1, R1.out.2.1, R1.out.2.2]
          rintro e w1 ⟨rfl, q, rfl⟩
          go_wp2_with fail
          refine (rread8_any (bOf r) _ Hr.out).mono ?_
          rw [R2.out.1, R2.out.2.1, R2.out.2.2]
          rintro e w1 ⟨rfl, q', rfl⟩
          go_wp2
          go_ret3
          exact ⟨rfl, HB.out.drewN' _⟩
  · rw [asV_no hc]
    have h1 := not_one hc
    clear hc
    go_enter Try.func12, Try.ntmps12
    go_wp2
    go_ret3
    exact ⟨rfl, HB.out⟩

set_option maxHeartbeats 1000000 in
set_option maxRecDepth 100000 in
theorem ranswered_any (c i : UInt8) (d : ByteArray) (w : World) (hd : d.size ≤ maxLen) :
    Calls Try.prog 14 #[.agg #[.int .u8 c.toNat, .int .u8 i.toNat, .string d]] w fun e w' => e = .returned (anV c d) ∧ Below w.heap.size w w' := by
  have HB : Hid (Below w.heap.size w (w.alloc (.cells #[.int .u8 c.toNat, .int .u8 i.toNat, .string d] 23))) := (Below.refl _ w).alloc (Nat.le_refl _) _
  have Hd := Lib.hid hd
  by_cases h2 : c = 2
  · have hv : c = 2 ∨ c = 3 := .inl h2
    subst h2
    rcases hr : r8 d.toList with _ | ⟨t, r⟩
    · have R1 := Lib.hid (read_none d hr)
      rw [anV_end hv (rd_one_end hr)]
      clear hr hv
      go_enter Try.func14, Try.ntmps14
      go_wp2_with fail
      refine (rread8_any d _ Hd.out).mono ?_
      rw [R1.out.1, R1.out.2.1, R1.out.2.2]
      rintro e w1 ⟨rfl, q, rfl⟩
      go_wp2
      go_ret3
      exact ⟨rfl, HB.out.drewN' q⟩
    · have R1 := Lib.hid (read_some d t r hr)
      by_cases h0 : r = []
      · subst h0
        have h9 := no_empty
        rw [anV_ok hv (rd_one hr)]
        clear hr hv
        go_enter Try.func14, Try.ntmps14
        go_wp2_with fail
        refine (rread8_any d _ Hd.out).mono ?_
        rw [R1.out.1, R1.out.2.1, R1.out.2.2]
        rintro e w1 ⟨rfl, q, rfl⟩
        go_wp2
        go_ret3
        exact ⟨rfl, HB.out.drewN' q⟩
      · have h9 := is_empty r h0
        rw [anV_form hv (rd_one hr) h0]
        clear hr hv h0
        go_enter Try.func14, Try.ntmps14
        go_wp2_with fail
        refine (rread8_any d _ Hd.out).mono ?_
        rw [R1.out.1, R1.out.2.1, R1.out.2.2]
        rintro e w1 ⟨rfl, q, rfl⟩
        go_wp2
        go_ret3
        exact ⟨rfl, HB.out.drewN' q⟩
  by_cases h3 : c = 3
  · have hv : c = 2 ∨ c = 3 := .inr h3
    subst h3
    rcases hr : r8 d.toList with _ | ⟨t, r⟩
    · have R1 := Lib.hid (read_none d hr)
      rw [anV_end hv (rd_one_end hr)]
      clear hr hv
      go_enter Try.func14, Try.ntmps14
      go_wp2_with fail
      refine (rread8_any d _ Hd.out).mono ?_
      rw [R1.out.1, R1.out.2.1, R1.out.2.2]
      rintro e w1 ⟨rfl, q, rfl⟩
      go_wp2
      go_ret3
      exact ⟨rfl, HB.out.drewN' q⟩
    · have R1 := Lib.hid (read_some d t r hr)
      by_cases h0 : r = []
      · subst h0
        have h9 := no_empty
        rw [anV_ok hv (rd_one hr)]
        clear hr hv
        go_enter Try.func14, Try.ntmps14
        go_wp2_with fail
        refine (rread8_any d _ Hd.out).mono ?_
        rw [R1.out.1, R1.out.2.1, R1.out.2.2]
        rintro e w1 ⟨rfl, q, rfl⟩
        go_wp2
        go_ret3
        exact ⟨rfl, HB.out.drewN' q⟩
      · have h9 := is_empty r h0
        rw [anV_form hv (rd_one hr) h0]
        clear hr hv h0
        go_enter Try.func14, Try.ntmps14
        go_wp2_with fail
        refine (rread8_any d _ Hd.out).mono ?_
        rw [R1.out.1, R1.out.2.1, R1.out.2.2]
        rintro e w1 ⟨rfl, q, rfl⟩
        go_wp2
        go_ret3
        exact ⟨rfl, HB.out.drewN' q⟩
  rw [anV_no h2 h3]
  have k2 := not_two h2
  have k3 := not_three h3
  clear h2 h3
  go_enter Try.func14, Try.ntmps14
  go_wp2
  go_ret3
  exact ⟨rfl, HB.out⟩
end Go.Proofs.Ythddfpmjjbpkgaa.Pap
