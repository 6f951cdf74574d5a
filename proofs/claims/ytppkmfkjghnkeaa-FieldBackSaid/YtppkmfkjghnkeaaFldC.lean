/- Contract of the document's Get of a frame's information. -/
import Derived.Test.YtppkmfkjghnkeaaFldB
import Derived.Deep.CutRange
namespace Go.Proofs.Ytppkmfkjghnkeaa.Fld
open Go.RowKit Go.Proofs.Ytppkmfkjghnkeaa.Oct
theorem is_even (c : UInt8) (h : ¬ c.toNat % 2 = 1) : ((c.toNat : Int) % 2 == 0) = true := by simp; omega
theorem is_odd (c : UInt8) (h : c.toNat % 2 = 1) : ((c.toNat : Int) % 2 == 0) = false := by simp; omega
theorem no_byte (c : UInt8) (n : Int) (k : UInt8) (hk : (k.toNat : Int) = n) (h : c ≠ k) : ((c.toNat : Int) == n) = false := by
  rw [beq_eq_false_iff_ne, ← hk]
  intro e
  exact h (UInt8.toNat_inj.1 (by omega))
theorem wrap_byte (c : UInt8) : IntKind.u16.wrap (c.toNat : Int) = ((c.toNat : Nat) : Int) := by
  have := c.toNat_lt
  simp only [IntKind.wrap_u16]
  omega
theorem wrap_two (c d : UInt8) : IntKind.u16.wrap (IntKind.u16.wrap (IntKind.u16.wrap (c.toNat : Int) * 256) + IntKind.u16.wrap (d.toNat : Int)) = ((val [c, d] : Nat) : Int) := by
  have := c.toNat_lt
  have := d.toNat_lt
  simp only [IntKind.wrap_u16, val, List.foldl_cons, List.foldl_nil]
  omega
theorem odd_val (c : UInt8) (r : List UInt8) (h : c.toNat % 2 = 1) : gE (c :: r) = (if may c.toNat then 0 else 7) ∧ gP (c :: r) = (if may c.toNat then c.toNat else 0) ∧ gR (c :: r) = (if may c.toNat then r else []) := by
  have hw : wid (c :: r) = 1 := by simp [wid, h]
  have hv : val ((c :: r).take 1) = c.toNat := by simp [val]
  have hE : gE (c :: r) = if may c.toNat then 0 else 7 := by
    unfold gE
    rw [hw, hv, if_neg (by simp)]
  refine ⟨hE, ?_, ?_⟩
  · unfold gP
    rw [hE, hw, hv]
    cases may c.toNat <;> rfl
  · unfold gR
    rw [hE, hw]
    cases may c.toNat <;> rfl
theorem even_one (c : UInt8) (h : ¬ c.toNat % 2 = 1) : gE [c] = 6 ∧ gP [c] = 0 ∧ gR [c] = [] := by
  have hw : wid [c] = 2 := by simp [wid, h]
  have hE : gE [c] = 6 := by unfold gE; rw [hw, if_pos (by simp)]
  exact ⟨hE, gP_none (by rw [hE]; decide)⟩
theorem even_val (c d : UInt8) (r : List UInt8) (h : ¬ c.toNat % 2 = 1) : gE (c :: d :: r) = (if may (val [c, d]) then 0 else 7) ∧ gP (c :: d :: r) = (if may (val [c, d]) then val [c, d] else 0) ∧ gR (c :: d :: r) = (if may (val [c, d]) then r else []) := by
  have hw : wid (c :: d :: r) = 2 := by simp [wid, h]
  have hv : (c :: d :: r).take 2 = [c, d] := rfl
  have hE : gE (c :: d :: r) = if may (val [c, d]) then 0 else 7 := by
    unfold gE
    rw [hw, hv, if_neg (by simp)]
  refine ⟨hE, ?_, ?_⟩
  · unfold gP
    rw [hE, hw, hv]
    cases may (val [c, d]) <;> rfl
  · unfold gR
    rw [hE, hw]
    cases may (val [c, d]) <;> rfl
theorem val_two_lt (c d : UInt8) : val [c, d] < 65536 := Nat.lt_of_lt_of_le (val_lt [c, d]) (by simp)
theorem rest_of (l r : List UInt8) (k : Nat) (h : l.drop k = r) : (bOf l).extract k (bOf l).size = bOf r := by rw [extract_rest, toList_bOf, h]

set_option maxHeartbeats 1000000 in
theorem rget_skip (t : List UInt8) (w : World) :
    Calls Try.prog 11 #[.string (bOf (255 :: 3 :: t))] w fun e w' => e = .returned (.tuple #[.int .u16 (gP (t)), .string (bOf (gR (t))), .int .i64 (gE (t))]) ∧ ∃ k, w' = w.drewN k := by
  rcases t with _ | ⟨c, r⟩
  · have k1 := empty_true
    have hE : gE [] = 6 := by decide
    have hP : gP [] = 0 := by decide
    have hR : gR [] = [] := by decide
    rw [hE, hP, hR]
    clear hE hP hR
    have j1 : (2 : Int) ≤ (bOf (255 :: 3 :: [])).size := by rw [size_bOf]; simp only [List.length_cons]; omega
    have j2 : 1 < (bOf (255 :: 3 :: [])).size := by omega
    have j3 : (bOf (255 :: 3 :: []))[0] = 255 := rfl
    have j4 : (bOf (255 :: 3 :: []))[1] = 3 := rfl
    have HX := Lib.hid (rest_of (255 :: 3 :: []) [] 2 rfl)
    go_enter Try.func11, Try.ntmps11
    go_upto_region 3 with fail
    rw [HX.out]
    go_wp2
    go_ret3
    exact ⟨rfl, 0, rfl⟩
  · by_cases hc : c.toNat % 2 = 1
    · have hv := odd_val c r hc
      rw [hv.1, hv.2.1, hv.2.2]
      have k7 := is_odd c hc
      have M := Lib.hid (fun w => rmay_any c.toNat w (by have := c.toNat_lt; omega))
      have HR := Lib.hid (rest_of (c :: r) r 1 rfl)
      clear hv hc
      have k3 : 0 < (bOf (c :: r)).size := by rw [size_bOf]; simp
      have k2 : (bOf (c :: r))[0] = c := rfl
      have k1 := empty_false c (r)
      have j1 : (2 : Int) ≤ (bOf (255 :: 3 :: (c :: r))).size := by rw [size_bOf]; simp only [List.length_cons]; omega
      have j2 : 1 < (bOf (255 :: 3 :: (c :: r))).size := by omega
      have j3 : (bOf (255 :: 3 :: (c :: r)))[0] = 255 := rfl
      have j4 : (bOf (255 :: 3 :: (c :: r)))[1] = 3 := rfl
      have HX := Lib.hid (rest_of (255 :: 3 :: (c :: r)) (c :: r) 2 rfl)
      have hlen1 : (1 : Int) ≤ (bOf (c :: r)).size := by rw [size_bOf]; simp only [List.length_cons]; omega
      have HW := Lib.hid (wrap_byte c)
      generalize may c.toNat = m at *
      cases m
      · go_enter Try.func11, Try.ntmps11
        go_upto_region 3 with fail
        rw [HX.out]
        go_wp2_with fail
        rw [HW.out]
        refine (M.out _).mono ?_
        rintro e w4 ⟨rfl, rfl⟩
        go_wp2
        go_ret3
        exact ⟨rfl, 0, rfl⟩
      · go_enter Try.func11, Try.ntmps11
        go_upto_region 3 with fail
        rw [HX.out]
        go_wp2_with fail
        rw [HW.out]
        refine (M.out _).mono ?_
        rintro e w4 ⟨rfl, rfl⟩
        go_wp2
        go_quiet (fail)
        go_wp2
        go_ret3
        refine ⟨?_, nq, rfl⟩
        rw [HR.out]
        rfl
    · rcases r with _ | ⟨d, r⟩
      · have hv := even_one c hc
        rw [hv.1, hv.2.1, hv.2.2]
        have k7 := is_even c hc
        have k8 : ((bOf [c]).size : Int) < 2 := by rw [size_bOf]; simp
        clear hv hc
        have k3 : 0 < (bOf ([c])).size := by rw [size_bOf]; simp
        have k2 : (bOf ([c]))[0] = c := rfl
        have k1 := empty_false c ([])
        have j1 : (2 : Int) ≤ (bOf (255 :: 3 :: [c])).size := by rw [size_bOf]; simp only [List.length_cons]; omega
        have j2 : 1 < (bOf (255 :: 3 :: [c])).size := by omega
        have j3 : (bOf (255 :: 3 :: [c]))[0] = 255 := rfl
        have j4 : (bOf (255 :: 3 :: [c]))[1] = 3 := rfl
        have HX := Lib.hid (rest_of (255 :: 3 :: [c]) [c] 2 rfl)
        go_enter Try.func11, Try.ntmps11
        go_upto_region 3 with fail
        rw [HX.out]
        go_wp2
        go_ret3
        exact ⟨rfl, 0, rfl⟩
      · have hv := even_val c d r hc
        rw [hv.1, hv.2.1, hv.2.2]
        have k7 := is_even c hc
        have M := Lib.hid (fun w => rmay_any (val [c, d]) w (val_two_lt c d))
        have HR := Lib.hid (rest_of (c :: d :: r) r 2 rfl)
        have HW := Lib.hid (wrap_two c d)
        clear hv hc
        have k3 : 0 < (bOf (c :: d :: r)).size := by rw [size_bOf]; simp
        have k2 : (bOf (c :: d :: r))[0] = c := rfl
        have k1 := empty_false c (d :: r)
        have k4 : 1 < (bOf (c :: d :: r)).size := by rw [size_bOf]; simp
        have k5 : (bOf (c :: d :: r))[1] = d := rfl
        have k6 : (2 : Int) ≤ (bOf (c :: d :: r)).size := by rw [size_bOf]; simp only [List.length_cons]; omega
        have j1 : (2 : Int) ≤ (bOf (255 :: 3 :: (c :: d :: r))).size := by rw [size_bOf]; simp only [List.length_cons]; omega
        have j2 : 1 < (bOf (255 :: 3 :: (c :: d :: r))).size := by omega
        have j3 : (bOf (255 :: 3 :: (c :: d :: r)))[0] = 255 := rfl
        have j4 : (bOf (255 :: 3 :: (c :: d :: r)))[1] = 3 := rfl
        have HX := Lib.hid (rest_of (255 :: 3 :: (c :: d :: r)) (c :: d :: r) 2 rfl)
        generalize val [c, d] = q at *
        generalize may q = m at *
        cases m
        · go_enter Try.func11, Try.ntmps11
          go_upto_region 3 with fail
          rw [HX.out]
          go_wp2_with fail
          rw [HW.out]
          refine (M.out _).mono ?_
          rintro e w4 ⟨rfl, rfl⟩
          go_wp2
          go_ret3
          exact ⟨rfl, 0, rfl⟩
        · go_enter Try.func11, Try.ntmps11
          go_upto_region 3 with fail
          rw [HX.out]
          go_wp2_with fail
          rw [HW.out]
          refine (M.out _).mono ?_
          rintro e w4 ⟨rfl, rfl⟩
          go_wp2
          go_quiet (fail)
          go_wp2
          go_ret3
          refine ⟨?_, nq, rfl⟩
          rw [HR.out]
          rfl
set_option maxHeartbeats 1000000 in
theorem rget_nil (w : World) :
    Calls Try.prog 11 #[.string (bOf ([]))] w fun e w' => e = .returned (.tuple #[.int .u16 (gP ([])), .string (bOf (gR ([]))), .int .i64 (gE ([]))]) ∧ ∃ k, w' = w.drewN k := by
  have k1 := empty_true
  have j1 : ((bOf []).size : Int) < 2 := by rw [size_bOf]; simp
  have hE : gE [] = 6 := by decide
  have hP : gP [] = 0 := by decide
  have hR : gR [] = [] := by decide
  rw [hE, hP, hR]
  clear hE hP hR
  go_enter Try.func11, Try.ntmps11
  go_wp2
  go_ret3
  exact ⟨rfl, 0, rfl⟩
set_option maxHeartbeats 1000000 in
theorem rget_one (c : UInt8) (w : World) :
    Calls Try.prog 11 #[.string (bOf ([c]))] w fun e w' => e = .returned (.tuple #[.int .u16 (gP ([c])), .string (bOf (gR ([c]))), .int .i64 (gE ([c]))]) ∧ ∃ k, w' = w.drewN k := by
  by_cases hc : c.toNat % 2 = 1
  · have hv := odd_val c ([]) hc
    rw [hv.1, hv.2.1, hv.2.2]
    have k7 := is_odd c hc
    have M := Lib.hid (fun w => rmay_any (c).toNat w (by have := (c).toNat_lt; omega))
    have HR := Lib.hid (rest_of (c :: []) ([]) 1 rfl)
    clear hv hc
    have k3 : 0 < (bOf (c :: [])).size := by rw [size_bOf]; simp
    have k2 : (bOf (c :: []))[0] = c := rfl
    have k1 := empty_false c ([])
    have j1 : ((bOf [c]).size : Int) < 2 := by rw [size_bOf]; simp
    have hlen1 : (1 : Int) ≤ (bOf (c :: [])).size := by rw [size_bOf]; simp only [List.length_cons]; omega
    have HW := Lib.hid (wrap_byte c)
    generalize may c.toNat = m at *
    cases m
    · go_enter Try.func11, Try.ntmps11
      go_wp2_with fail
      rw [HW.out]
      refine (M.out _).mono ?_
      rintro e w4 ⟨rfl, rfl⟩
      go_wp2
      go_ret3
      exact ⟨rfl, 0, rfl⟩
    · go_enter Try.func11, Try.ntmps11
      go_wp2_with fail
      rw [HW.out]
      refine (M.out _).mono ?_
      rintro e w4 ⟨rfl, rfl⟩
      go_wp2
      go_quiet (fail)
      go_wp2
      go_ret3
      refine ⟨?_, nq, rfl⟩
      rw [HR.out]
      rfl
  · have hv := even_one c hc
    rw [hv.1, hv.2.1, hv.2.2]
    have k7 := is_even c hc
    have k8 : ((bOf [c]).size : Int) < 2 := by rw [size_bOf]; simp
    clear hv hc
    have k3 : 0 < (bOf ([c])).size := by rw [size_bOf]; simp
    have k2 : (bOf ([c]))[0] = c := rfl
    have k1 := empty_false c ([])
    go_enter Try.func11, Try.ntmps11
    go_wp2
    go_ret3
    exact ⟨rfl, 0, rfl⟩
set_option maxHeartbeats 1000000 in
theorem rget_first (c d : UInt8) (r : List UInt8) (h1 : c ≠ 255) (w : World) :
    Calls Try.prog 11 #[.string (bOf (c :: d :: r))] w fun e w' => e = .returned (.tuple #[.int .u16 (gP (c :: d :: r)), .string (bOf (gR (c :: d :: r))), .int .i64 (gE (c :: d :: r))]) ∧ ∃ k, w' = w.drewN k := by
  by_cases hc : c.toNat % 2 = 1
  · have hv := odd_val c (d :: r) hc
    rw [hv.1, hv.2.1, hv.2.2]
    have k7 := is_odd c hc
    have M := Lib.hid (fun w => rmay_any (c).toNat w (by have := (c).toNat_lt; omega))
    have HR := Lib.hid (rest_of (c :: d :: r) (d :: r) 1 rfl)
    clear hv hc
    have k3 : 0 < (bOf (c :: d :: r)).size := by rw [size_bOf]; simp
    have k2 : (bOf (c :: d :: r))[0] = c := rfl
    have k1 := empty_false c (d :: r)
    have k4 : 1 < (bOf (c :: d :: r)).size := by rw [size_bOf]; simp
    have k5 : (bOf (c :: d :: r))[1] = d := rfl
    have k6 : (2 : Int) ≤ (bOf (c :: d :: r)).size := by rw [size_bOf]; simp only [List.length_cons]; omega
    have j2 := no_byte c 255 255 rfl h1
    have hlen1 : (1 : Int) ≤ (bOf (c :: d :: r)).size := by rw [size_bOf]; simp only [List.length_cons]; omega
    have HW := Lib.hid (wrap_byte c)
    generalize may c.toNat = m at *
    cases m
    · go_enter Try.func11, Try.ntmps11
      go_wp2_with fail
      rw [HW.out]
      refine (M.out _).mono ?_
      rintro e w4 ⟨rfl, rfl⟩
      go_wp2
      go_ret3
      exact ⟨rfl, 0, rfl⟩
    · go_enter Try.func11, Try.ntmps11
      go_wp2_with fail
      rw [HW.out]
      refine (M.out _).mono ?_
      rintro e w4 ⟨rfl, rfl⟩
      go_wp2
      go_quiet (fail)
      go_wp2
      go_ret3
      refine ⟨?_, nq, rfl⟩
      rw [HR.out]
      rfl
  · have hv := even_val c d r hc
    rw [hv.1, hv.2.1, hv.2.2]
    have k7 := is_even c hc
    have M := Lib.hid (fun w => rmay_any (val [c, d]) w (val_two_lt c d))
    have HR := Lib.hid (rest_of (c :: d :: r) r 2 rfl)
    have HW := Lib.hid (wrap_two c d)
    clear hv hc
    have k3 : 0 < (bOf (c :: d :: r)).size := by rw [size_bOf]; simp
    have k2 : (bOf (c :: d :: r))[0] = c := rfl
    have k1 := empty_false c (d :: r)
    have k4 : 1 < (bOf (c :: d :: r)).size := by rw [size_bOf]; simp
    have k5 : (bOf (c :: d :: r))[1] = d := rfl
    have k6 : (2 : Int) ≤ (bOf (c :: d :: r)).size := by rw [size_bOf]; simp only [List.length_cons]; omega
    have j2 := no_byte c 255 255 rfl h1
    generalize val [c, d] = q at *
    generalize may q = m at *
    cases m
    · go_enter Try.func11, Try.ntmps11
      go_wp2_with fail
      rw [HW.out]
      refine (M.out _).mono ?_
      rintro e w4 ⟨rfl, rfl⟩
      go_wp2
      go_ret3
      exact ⟨rfl, 0, rfl⟩
    · go_enter Try.func11, Try.ntmps11
      go_wp2_with fail
      rw [HW.out]
      refine (M.out _).mono ?_
      rintro e w4 ⟨rfl, rfl⟩
      go_wp2
      go_quiet (fail)
      go_wp2
      go_ret3
      refine ⟨?_, nq, rfl⟩
      rw [HR.out]
      rfl
set_option maxHeartbeats 1000000 in
theorem rget_second (c d : UInt8) (r : List UInt8) (h0 : c = 255) (h1 : d ≠ 3) (w : World) :
    Calls Try.prog 11 #[.string (bOf (c :: d :: r))] w fun e w' => e = .returned (.tuple #[.int .u16 (gP (c :: d :: r)), .string (bOf (gR (c :: d :: r))), .int .i64 (gE (c :: d :: r))]) ∧ ∃ k, w' = w.drewN k := by
  have hc : c.toNat % 2 = 1 := by rw [h0]; rfl
  have hv := odd_val c (d :: r) hc
  rw [hv.1, hv.2.1, hv.2.2]
  have k7 := is_odd c hc
  have M := Lib.hid (fun w => rmay_any (c).toNat w (by have := (c).toNat_lt; omega))
  have HR := Lib.hid (rest_of (c :: d :: r) (d :: r) 1 rfl)
  clear hv hc
  have k3 : 0 < (bOf (c :: d :: r)).size := by rw [size_bOf]; simp
  have k2 : (bOf (c :: d :: r))[0] = c := rfl
  have k1 := empty_false c (d :: r)
  have k4 : 1 < (bOf (c :: d :: r)).size := by rw [size_bOf]; simp
  have k5 : (bOf (c :: d :: r))[1] = d := rfl
  have k6 : (2 : Int) ≤ (bOf (c :: d :: r)).size := by rw [size_bOf]; simp only [List.length_cons]; omega
  have j3 := no_byte d 3 3 rfl h1
  have j4 : ((c.toNat : Int) == 255) = true := by rw [h0]; rfl
  clear h0
  have hlen1 : (1 : Int) ≤ (bOf (c :: d :: r)).size := by rw [size_bOf]; simp only [List.length_cons]; omega
  have HW := Lib.hid (wrap_byte c)
  generalize may c.toNat = m at *
  cases m
  · go_enter Try.func11, Try.ntmps11
    go_wp2_with fail
    rw [HW.out]
    refine (M.out _).mono ?_
    rintro e w4 ⟨rfl, rfl⟩
    go_wp2
    go_ret3
    exact ⟨rfl, 0, rfl⟩
  · go_enter Try.func11, Try.ntmps11
    go_wp2_with fail
    rw [HW.out]
    refine (M.out _).mono ?_
    rintro e w4 ⟨rfl, rfl⟩
    go_wp2
    go_quiet (fail)
    go_wp2
    go_ret3
    refine ⟨?_, nq, rfl⟩
    rw [HR.out]
    rfl
theorem rget_any (s : ByteArray) (w : World) :
    Calls Try.prog 11 #[.string s] w fun e w' => e = .returned (.tuple #[.int .u16 (gP (skip s.toList)), .string (bOf (gR (skip s.toList))), .int .i64 (gE (skip s.toList))]) ∧ ∃ k, w' = w.drewN k := by
  obtain ⟨l, rfl⟩ : ∃ l, s = bOf l := ⟨s.toList, (bOf_toList s).symm⟩
  rw [toList_bOf]
  rcases l with _ | ⟨c, _ | ⟨d, r⟩⟩
  · exact rget_nil w
  · rw [show skip [c] = [c] by unfold skip; rw [if_neg]; intro h; cases h]
    exact rget_one c w
  · by_cases h1 : c = 255
    · subst h1
      by_cases h2 : d = 3
      · subst h2
        rw [show skip (255 :: 3 :: r) = r by unfold skip; exact if_pos rfl]
        exact rget_skip r w
      · rw [show skip (255 :: d :: r) = 255 :: d :: r by unfold skip; rw [if_neg]; intro h; exact h2 (List.cons.inj (List.cons.inj h).2).1]
        exact rget_second 255 d r rfl h2 w
    · rw [show skip (c :: d :: r) = c :: d :: r by unfold skip; rw [if_neg]; intro h; exact h1 (List.cons.inj h).1]
      exact rget_first c d r h1 w
end Go.Proofs.Ytppkmfkjghnkeaa.Fld
