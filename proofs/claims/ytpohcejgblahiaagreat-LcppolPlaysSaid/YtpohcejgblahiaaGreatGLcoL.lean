/- Put together: LcoL, LcoM. -/
import Derived.Test.YtpohcejgblahiaaGreatGLcoA
import Derived.Laws.BitsAllLaws
import Derived.Test.YtpohcejgblahiaaGreatGLcoC

/- Contracts of the document's Good, Known, value, num and set. -/
namespace Go.Proofs.YtpohcejgblahiaaGreat.Lco
open Go.RowKit Go.Proofs.YtpohcejgblahiaaGreat.Oct Go.Proofs.YtpohcejgblahiaaGreat.Row Go.Proofs.YtpohcejgblahiaaGreat.Mem Go.Proofs.YtpohcejgblahiaaGreat.Opt

theorem kn_not {t : UInt8} (h : known t = false) {k : UInt8} (hk : known k = true) : ¬ t = k := fun e => by rw [e, hk] at h; cases h
set_option maxHeartbeats 1000000 in
set_option maxRecDepth 100000 in
theorem rknown_any (t : UInt8) (w : World) : Calls Tryz.prog 111 #[.int .u8 t.toNat] w fun e w' => e = .returned (.bool (known t)) ∧ Below w.heap.size w w' := by
  cases hk : known t
  · have HK := Lib.hid hk
    have q1 : ((t.toNat : Int) == 1) = false := u8_not (n := 1) (u8_isnt (by omega) (fun e => by rw [e] at hk; cases hk))
    have q2 : ((t.toNat : Int) == 2) = false := u8_not (n := 2) (u8_isnt (by omega) (fun e => by rw [e] at hk; cases hk))
    have q5 : ((t.toNat : Int) == 5) = false := u8_not (n := 5) (u8_isnt (by omega) (fun e => by rw [e] at hk; cases hk))
    have q3 : ((t.toNat : Int) == 3) = false := u8_not (n := 3) (u8_isnt (by omega) (fun e => by rw [e] at hk; cases hk))
    have q7 : ((t.toNat : Int) == 7) = false := u8_not (n := 7) (u8_isnt (by omega) (fun e => by rw [e] at hk; cases hk))
    have q8 : ((t.toNat : Int) == 8) = false := u8_not (n := 8) (u8_isnt (by omega) (fun e => by rw [e] at hk; cases hk))
    clear hk
    go_enter Tryz.func111, Tryz.ntmps111
    go_wp2
    go_ret
    exact ⟨rfl, Below.refl _ _⟩
  · rcases known_cases hk with e | e | e | e | e | e
    · clear hk
      have q1 : ((t.toNat : Int) == 1) = true := u8_is (n := 1) (by rw [e]; rfl)
      have q2 : ((t.toNat : Int) == 2) = false := u8_not (n := 2) (by rw [e]; decide)
      have q5 : ((t.toNat : Int) == 5) = false := u8_not (n := 5) (by rw [e]; decide)
      have q3 : ((t.toNat : Int) == 3) = false := u8_not (n := 3) (by rw [e]; decide)
      have q7 : ((t.toNat : Int) == 7) = false := u8_not (n := 7) (by rw [e]; decide)
      have q8 : ((t.toNat : Int) == 8) = false := u8_not (n := 8) (by rw [e]; decide)
      clear e
      go_enter Tryz.func111, Tryz.ntmps111
      go_wp2
      go_ret
      exact ⟨rfl, Below.refl _ _⟩
    · clear hk
      have q1 : ((t.toNat : Int) == 1) = false := u8_not (n := 1) (by rw [e]; decide)
      have q2 : ((t.toNat : Int) == 2) = true := u8_is (n := 2) (by rw [e]; rfl)
      have q5 : ((t.toNat : Int) == 5) = false := u8_not (n := 5) (by rw [e]; decide)
      have q3 : ((t.toNat : Int) == 3) = false := u8_not (n := 3) (by rw [e]; decide)
      have q7 : ((t.toNat : Int) == 7) = false := u8_not (n := 7) (by rw [e]; decide)
      have q8 : ((t.toNat : Int) == 8) = false := u8_not (n := 8) (by rw [e]; decide)
      clear e
      go_enter Tryz.func111, Tryz.ntmps111
      go_wp2
      go_ret
      exact ⟨rfl, Below.refl _ _⟩
    · clear hk
      have q1 : ((t.toNat : Int) == 1) = false := u8_not (n := 1) (by rw [e]; decide)
      have q2 : ((t.toNat : Int) == 2) = false := u8_not (n := 2) (by rw [e]; decide)
      have q5 : ((t.toNat : Int) == 5) = false := u8_not (n := 5) (by rw [e]; decide)
      have q3 : ((t.toNat : Int) == 3) = true := u8_is (n := 3) (by rw [e]; rfl)
      have q7 : ((t.toNat : Int) == 7) = false := u8_not (n := 7) (by rw [e]; decide)
      have q8 : ((t.toNat : Int) == 8) = false := u8_not (n := 8) (by rw [e]; decide)
      clear e
      go_enter Tryz.func111, Tryz.ntmps111
      go_wp2
      go_ret
      exact ⟨rfl, Below.refl _ _⟩
    · clear hk
      have q1 : ((t.toNat : Int) == 1) = false := u8_not (n := 1) (by rw [e]; decide)
      have q2 : ((t.toNat : Int) == 2) = false := u8_not (n := 2) (by rw [e]; decide)
      have q5 : ((t.toNat : Int) == 5) = true := u8_is (n := 5) (by rw [e]; rfl)
      have q3 : ((t.toNat : Int) == 3) = false := u8_not (n := 3) (by rw [e]; decide)
      have q7 : ((t.toNat : Int) == 7) = false := u8_not (n := 7) (by rw [e]; decide)
      have q8 : ((t.toNat : Int) == 8) = false := u8_not (n := 8) (by rw [e]; decide)
      clear e
      go_enter Tryz.func111, Tryz.ntmps111
      go_wp2
      go_ret
      exact ⟨rfl, Below.refl _ _⟩
    · clear hk
      have q1 : ((t.toNat : Int) == 1) = false := u8_not (n := 1) (by rw [e]; decide)
      have q2 : ((t.toNat : Int) == 2) = false := u8_not (n := 2) (by rw [e]; decide)
      have q5 : ((t.toNat : Int) == 5) = false := u8_not (n := 5) (by rw [e]; decide)
      have q3 : ((t.toNat : Int) == 3) = false := u8_not (n := 3) (by rw [e]; decide)
      have q7 : ((t.toNat : Int) == 7) = true := u8_is (n := 7) (by rw [e]; rfl)
      have q8 : ((t.toNat : Int) == 8) = false := u8_not (n := 8) (by rw [e]; decide)
      clear e
      go_enter Tryz.func111, Tryz.ntmps111
      go_wp2
      go_ret
      exact ⟨rfl, Below.refl _ _⟩
    · clear hk
      have q1 : ((t.toNat : Int) == 1) = false := u8_not (n := 1) (by rw [e]; decide)
      have q2 : ((t.toNat : Int) == 2) = false := u8_not (n := 2) (by rw [e]; decide)
      have q5 : ((t.toNat : Int) == 5) = false := u8_not (n := 5) (by rw [e]; decide)
      have q3 : ((t.toNat : Int) == 3) = false := u8_not (n := 3) (by rw [e]; decide)
      have q7 : ((t.toNat : Int) == 7) = false := u8_not (n := 7) (by rw [e]; decide)
      have q8 : ((t.toNat : Int) == 8) = true := u8_is (n := 8) (by rw [e]; rfl)
      clear e
      go_enter Tryz.func111, Tryz.ntmps111
      go_wp2
      go_ret
      exact ⟨rfl, Below.refl _ _⟩
theorem authK_1 {d : ByteArray} (h : d = bOf [192, 35]) : authK d = 1 := by unfold authK; rw [if_pos h]
theorem authK_2 {d : ByteArray} (h1 : ¬ d = bOf [192, 35]) (h : d = bOf [194, 35, 5]) : authK d = 2 := by unfold authK; rw [if_neg h1, if_pos h]
theorem authK_0 {d : ByteArray} (h1 : ¬ d = bOf [192, 35]) (h : ¬ d = bOf [194, 35, 5]) : authK d = 0 := by unfold authK; rw [if_neg h1, if_neg h]
theorem lit_is {d : ByteArray} {l : List UInt8} (h : d = bOf l) : (d.toList == l) = true := by rw [h, toList_bOf]; simp
theorem lit_not {d : ByteArray} {l : List UInt8} (h : ¬ d = bOf l) : (d.toList == l) = false := by
  rw [beq_eq_false_iff_ne]
  exact fun e => h (by rw [← e, bOf_toList])
set_option maxHeartbeats 2000000 in
set_option maxRecDepth 100000 in
theorem rgood_w (t : UInt8) (d : ByteArray) (w : World) : Calls Tryz.prog 86 #[.agg #[.int .u8 t.toNat, .string d]] w fun e w' => e = .returned (.bool (good (t, d))) ∧ w' = w.alloc (.cells #[.int .u8 t.toNat, .string d] 51) := by
  obtain ⟨W, hW, HW⟩ : ∃ W, w.alloc (.cells #[.int .u8 t.toNat, .string d] 51) = W ∧ Hid (At W w.heap.size (t, d) ∧ W = w.alloc (.cells #[.int .u8 t.toNat, .string d] 51)) := ⟨_, rfl, at_new w t d, rfl⟩
  have HB := Lib.hid HW.out.2
  have c0 : W.cell? ⟨w.heap.size, 0, none⟩ = some (.int .u8 t.toNat) := HW.out.1.c0
  have c1 : W.cell? ⟨w.heap.size, 1, none⟩ = some (.string d) := HW.out.1.c1
  clear HW
  cases hk : known t
  · have HG : Hid (good (t, d) = false) := by
      show _ = _
      rw [Bool.eq_false_iff]
      intro e
      rw [show known t = true from good_known e] at hk
      cases hk
    have q1 : ((t.toNat : Int) == 1) = false := u8_not (n := 1) (u8_isnt (by omega) (fun e => by rw [e] at hk; cases hk))
    have q2 : ((t.toNat : Int) == 2) = false := u8_not (n := 2) (u8_isnt (by omega) (fun e => by rw [e] at hk; cases hk))
    have q5 : ((t.toNat : Int) == 5) = false := u8_not (n := 5) (u8_isnt (by omega) (fun e => by rw [e] at hk; cases hk))
    have q3 : ((t.toNat : Int) == 3) = false := u8_not (n := 3) (u8_isnt (by omega) (fun e => by rw [e] at hk; cases hk))
    have q7 : ((t.toNat : Int) == 7) = false := u8_not (n := 7) (u8_isnt (by omega) (fun e => by rw [e] at hk; cases hk))
    have q8 : ((t.toNat : Int) == 8) = false := u8_not (n := 8) (u8_isnt (by omega) (fun e => by rw [e] at hk; cases hk))
    clear hk
    go_enter Tryz.func86, Tryz.ntmps86
    go_wp2
    go_ret
    exact ⟨by rw [HG.out] <;> rfl, HB.out⟩
  · rcases known_cases hk with e | e | e | e | e | e
    · clear hk
      have q1 : ((t.toNat : Int) == 1) = true := u8_is (n := 1) (by rw [e]; rfl)
      have q2 : ((t.toNat : Int) == 2) = false := u8_not (n := 2) (by rw [e]; decide)
      have q5 : ((t.toNat : Int) == 5) = false := u8_not (n := 5) (by rw [e]; decide)
      have q3 : ((t.toNat : Int) == 3) = false := u8_not (n := 3) (by rw [e]; decide)
      have q7 : ((t.toNat : Int) == 7) = false := u8_not (n := 7) (by rw [e]; decide)
      have q8 : ((t.toNat : Int) == 8) = false := u8_not (n := 8) (by rw [e]; decide)
      by_cases hs : d.size = 2
      · have HG : Hid (good (t, d) = true) := by show _ = _; rw [e]; exact decide_eq_true hs
        have x1 : ((d.size : Int) == 2) = true := by rw [hs]; rfl
        clear e hs
        go_enter Tryz.func86, Tryz.ntmps86
        go_wp2
        go_ret
        exact ⟨by rw [HG.out] <;> rfl, HB.out⟩
      · have HG : Hid (good (t, d) = false) := by show _ = _; rw [e]; exact decide_eq_false hs
        have x1 : ((d.size : Int) == 2) = false := by rw [beq_eq_false_iff_ne]; omega
        clear e hs
        go_enter Tryz.func86, Tryz.ntmps86
        go_wp2
        go_ret
        exact ⟨by rw [HG.out] <;> rfl, HB.out⟩
    · clear hk
      have q1 : ((t.toNat : Int) == 1) = false := u8_not (n := 1) (by rw [e]; decide)
      have q2 : ((t.toNat : Int) == 2) = true := u8_is (n := 2) (by rw [e]; rfl)
      have q5 : ((t.toNat : Int) == 5) = false := u8_not (n := 5) (by rw [e]; decide)
      have q3 : ((t.toNat : Int) == 3) = false := u8_not (n := 3) (by rw [e]; decide)
      have q7 : ((t.toNat : Int) == 7) = false := u8_not (n := 7) (by rw [e]; decide)
      have q8 : ((t.toNat : Int) == 8) = false := u8_not (n := 8) (by rw [e]; decide)
      by_cases hs : d.size = 4
      · have HG : Hid (good (t, d) = true) := by show _ = _; rw [e]; exact decide_eq_true hs
        have x1 : ((d.size : Int) == 4) = true := by rw [hs]; rfl
        clear e hs
        go_enter Tryz.func86, Tryz.ntmps86
        go_wp2
        go_ret
        exact ⟨by rw [HG.out] <;> rfl, HB.out⟩
      · have HG : Hid (good (t, d) = false) := by show _ = _; rw [e]; exact decide_eq_false hs
        have x1 : ((d.size : Int) == 4) = false := by rw [beq_eq_false_iff_ne]; omega
        clear e hs
        go_enter Tryz.func86, Tryz.ntmps86
        go_wp2
        go_ret
        exact ⟨by rw [HG.out] <;> rfl, HB.out⟩
    · clear hk
      have q1 : ((t.toNat : Int) == 1) = false := u8_not (n := 1) (by rw [e]; decide)
      have q2 : ((t.toNat : Int) == 2) = false := u8_not (n := 2) (by rw [e]; decide)
      have q5 : ((t.toNat : Int) == 5) = false := u8_not (n := 5) (by rw [e]; decide)
      have q3 : ((t.toNat : Int) == 3) = true := u8_is (n := 3) (by rw [e]; rfl)
      have q7 : ((t.toNat : Int) == 7) = false := u8_not (n := 7) (by rw [e]; decide)
      have q8 : ((t.toNat : Int) == 8) = false := u8_not (n := 8) (by rw [e]; decide)
      by_cases h1 : d = bOf [192, 35]
      · have HG : Hid (good (t, d) = true) := by show _ = _; rw [e]; show (authK d != 0) = true; rw [authK_1 h1]; rfl
        have x1 := lit_is h1
        clear e h1
        go_enter Tryz.func86, Tryz.ntmps86
        go_wp2
        go_ret
        exact ⟨by rw [HG.out] <;> rfl, HB.out⟩
      · have x1 := lit_not h1
        by_cases h2 : d = bOf [194, 35, 5]
        · have HG : Hid (good (t, d) = true) := by show _ = _; rw [e]; show (authK d != 0) = true; rw [authK_2 h1 h2]; rfl
          have x2 := lit_is h2
          clear e h1 h2
          go_enter Tryz.func86, Tryz.ntmps86
          go_wp2
          go_ret
          exact ⟨by rw [HG.out] <;> rfl, HB.out⟩
        · have HG : Hid (good (t, d) = false) := by show _ = _; rw [e]; show (authK d != 0) = false; rw [authK_0 h1 h2]; rfl
          have x2 := lit_not h2
          clear e h1 h2
          go_enter Tryz.func86, Tryz.ntmps86
          go_wp2
          go_ret
          exact ⟨by rw [HG.out] <;> rfl, HB.out⟩
    · clear hk
      have q1 : ((t.toNat : Int) == 1) = false := u8_not (n := 1) (by rw [e]; decide)
      have q2 : ((t.toNat : Int) == 2) = false := u8_not (n := 2) (by rw [e]; decide)
      have q5 : ((t.toNat : Int) == 5) = true := u8_is (n := 5) (by rw [e]; rfl)
      have q3 : ((t.toNat : Int) == 3) = false := u8_not (n := 3) (by rw [e]; decide)
      have q7 : ((t.toNat : Int) == 7) = false := u8_not (n := 7) (by rw [e]; decide)
      have q8 : ((t.toNat : Int) == 8) = false := u8_not (n := 8) (by rw [e]; decide)
      by_cases hs : d.size = 4
      · have HG : Hid (good (t, d) = true) := by show _ = _; rw [e]; exact decide_eq_true hs
        have x1 : ((d.size : Int) == 4) = true := by rw [hs]; rfl
        clear e hs
        go_enter Tryz.func86, Tryz.ntmps86
        go_wp2
        go_ret
        exact ⟨by rw [HG.out] <;> rfl, HB.out⟩
      · have HG : Hid (good (t, d) = false) := by show _ = _; rw [e]; exact decide_eq_false hs
        have x1 : ((d.size : Int) == 4) = false := by rw [beq_eq_false_iff_ne]; omega
        clear e hs
        go_enter Tryz.func86, Tryz.ntmps86
        go_wp2
        go_ret
        exact ⟨by rw [HG.out] <;> rfl, HB.out⟩
    · clear hk
      have q1 : ((t.toNat : Int) == 1) = false := u8_not (n := 1) (by rw [e]; decide)
      have q2 : ((t.toNat : Int) == 2) = false := u8_not (n := 2) (by rw [e]; decide)
      have q5 : ((t.toNat : Int) == 5) = false := u8_not (n := 5) (by rw [e]; decide)
      have q3 : ((t.toNat : Int) == 3) = false := u8_not (n := 3) (by rw [e]; decide)
      have q7 : ((t.toNat : Int) == 7) = true := u8_is (n := 7) (by rw [e]; rfl)
      have q8 : ((t.toNat : Int) == 8) = false := u8_not (n := 8) (by rw [e]; decide)
      by_cases hs : d.size = 0
      · have HG : Hid (good (t, d) = true) := by show _ = _; rw [e]; exact decide_eq_true hs
        have x1 : d.toList.isEmpty = true := by have h := size_toList d; rw [hs] at h; rw [List.isEmpty_iff]; exact List.eq_nil_of_length_eq_zero h.symm
        clear e hs
        go_enter Tryz.func86, Tryz.ntmps86
        go_wp2
        go_ret
        exact ⟨by rw [HG.out] <;> rfl, HB.out⟩
      · have HG : Hid (good (t, d) = false) := by show _ = _; rw [e]; exact decide_eq_false hs
        have x1 : d.toList.isEmpty = false := by have h := size_toList d; rw [List.isEmpty_eq_false_iff]; intro h2; rw [h2] at h; exact hs h
        clear e hs
        go_enter Tryz.func86, Tryz.ntmps86
        go_wp2
        go_ret
        exact ⟨by rw [HG.out] <;> rfl, HB.out⟩
    · clear hk
      have q1 : ((t.toNat : Int) == 1) = false := u8_not (n := 1) (by rw [e]; decide)
      have q2 : ((t.toNat : Int) == 2) = false := u8_not (n := 2) (by rw [e]; decide)
      have q5 : ((t.toNat : Int) == 5) = false := u8_not (n := 5) (by rw [e]; decide)
      have q3 : ((t.toNat : Int) == 3) = false := u8_not (n := 3) (by rw [e]; decide)
      have q7 : ((t.toNat : Int) == 7) = false := u8_not (n := 7) (by rw [e]; decide)
      have q8 : ((t.toNat : Int) == 8) = true := u8_is (n := 8) (by rw [e]; rfl)
      by_cases hs : d.size = 0
      · have HG : Hid (good (t, d) = true) := by show _ = _; rw [e]; exact decide_eq_true hs
        have x1 : d.toList.isEmpty = true := by have h := size_toList d; rw [hs] at h; rw [List.isEmpty_iff]; exact List.eq_nil_of_length_eq_zero h.symm
        clear e hs
        go_enter Tryz.func86, Tryz.ntmps86
        go_wp2
        go_ret
        exact ⟨by rw [HG.out] <;> rfl, HB.out⟩
      · have HG : Hid (good (t, d) = false) := by show _ = _; rw [e]; exact decide_eq_false hs
        have x1 : d.toList.isEmpty = false := by have h := size_toList d; rw [List.isEmpty_eq_false_iff]; intro h2; rw [h2] at h; exact hs h
        clear e hs
        go_enter Tryz.func86, Tryz.ntmps86
        go_wp2
        go_ret
        exact ⟨by rw [HG.out] <;> rfl, HB.out⟩
theorem rgood_any (t : UInt8) (d : ByteArray) (w : World) : Calls Tryz.prog 86 #[.agg #[.int .u8 t.toNat, .string d]] w fun e w' => e = .returned (.bool (good (t, d))) ∧ Below w.heap.size w w' :=
  (rgood_w t d w).mono fun _ _ ⟨he, hw⟩ => ⟨he, by rw [hw]; exact (Below.refl _ _).alloc (Nat.le_refl _) _⟩
theorem or64v (q : Nat) (b : UInt8) (h : (q : Int) ≤ 16777215) : bits .or .u64 ((q : Int) * 256) (IntKind.u64.wrap (b.toNat : Int)) = ((q * 256 + b.toNat : Nat) : Int) := by
  have hb := b.toNat_lt
  have e2 : IntKind.u64.wrap (b.toNat : Int) = (b.toNat : Int) := by simp only [IntKind.wrap_u64]; omega
  rw [e2]
  rw [show ((q : Int) * 256) = ((q * 256 : Nat) : Int) by omega, u64_or_nat _ _ (by omega) (by omega), nat_join 8 _ _ (by omega) (by omega)]
set_option maxHeartbeats 400000 in
set_option maxRecDepth 100000 in
theorem rvalue_any (s : ByteArray) (w : World) (hs : s.size ≤ 4) :
    Calls Tryz.prog 119 #[.string s] w fun e w' => e = .returned (.int .u64 (val s.toList)) ∧ w = w' := by
  go_enter Tryz.func119, Tryz.ntmps119
  go_wp2
  go_loop [3, 4] (fun v i => ∃ k : Nat, k ≤ s.size ∧ i = .int .i64 k ∧ v = .int .u64 (val (s.toList.take k))) (fun _ i => s.size - (intOf i).toNat)
  case atStart => exact ⟨0, Nat.zero_le _, rfl, rfl⟩
  case round =>
    obtain ⟨k, hk, rfl, rfl⟩ := hrel
    by_cases hlt : k < s.size
    · have hb := val_take_le s.toList k (by omega)
      have hb1 : (val (s.toList.take k) : Int) ≤ 16777215 := by omega
      have hb2 : (0 : Int) ≤ (val (s.toList.take k) : Int) := by omega
      have HS := Lib.hid (val_take_succ s k hlt)
      clear hb
      generalize val (s.toList.take k) = q at *
      go_wp2
      go_round
      case rel => exact ⟨k + 1, by omega, by go_num, by rw [HS.out, ← or64v q _ hb1]⟩
      case measure => simp [intOf]; omega
    · go_wp2
      go_ret
      have e : s.toList.take k = s.toList := List.take_of_length_le (by rw [← size_toList]; omega)
      rw [e]
      exact ⟨rfl, rfl⟩
end Go.Proofs.YtpohcejgblahiaaGreat.Lco

/- Contract of the document's set. -/
namespace Go.Proofs.YtpohcejgblahiaaGreat.Lco
open Go.RowKit Go.Proofs.YtpohcejgblahiaaGreat.Oct Go.Proofs.YtpohcejgblahiaaGreat.Row Go.Proofs.YtpohcejgblahiaaGreat.Mem Go.Proofs.YtpohcejgblahiaaGreat.Opt

set_option maxHeartbeats 2000000 in
set_option maxRecDepth 100000 in
theorem rset1 (t : UInt8) (d : ByteArray) (x : Lcp) (w : World) (e : t = 1) (hg : good (t, d) = true) : Calls Tryz.prog 113 #[.agg (lv x).toArray, .agg #[.int .u8 t.toNat, .string d]] w fun e w' => e = .returned (.agg (lv (say x (t, d))).toArray) ∧ Below w.heap.size w w' := by
  show Calls Tryz.prog 113 #[.agg #[Value.bool x.hm, .int .u16 x.mru.toNat, .bool x.ha, .int .u32 x.accm.toNat, .int .u8 x.auth.toNat, .bool x.hg, .int .u32 x.magic.toNat, .bool x.pfc, .bool x.acfc], .agg #[.int .u8 t.toNat, .string d]] w fun e w' => e = .returned (.agg (lv (say x (t, d))).toArray) ∧ Below w.heap.size w w'
  obtain ⟨W, hW, HW⟩ := boxA w x t d
  have q1 : ((t.toNat : Int) == 1) = true := u8_is (n := 1) (by rw [e]; rfl)
  have q2 : ((t.toNat : Int) == 2) = false := u8_not (n := 2) (by rw [e]; decide)
  have q5 : ((t.toNat : Int) == 5) = false := u8_not (n := 5) (by rw [e]; decide)
  have q3 : ((t.toNat : Int) == 3) = false := u8_not (n := 3) (by rw [e]; decide)
  have q7 : ((t.toNat : Int) == 7) = false := u8_not (n := 7) (by rw [e]; decide)
  have q8 : ((t.toNat : Int) == 8) = false := u8_not (n := 8) (by rw [e]; decide)
  have o0 : W.cell? ⟨w.heap.size + 1, 0, none⟩ = some (.int .u8 t.toNat) := HW.out.2.1.c0
  have o1 : W.cell? ⟨w.heap.size + 1, 1, none⟩ = some (.string d) := HW.out.2.1.c1
  have x0 : W.cell? ⟨w.heap.size, 0, none⟩ = some (Value.bool x.hm) := HW.out.1.c 0
  have f0 : W.frozen? ⟨w.heap.size, 0, none⟩ = false := HW.out.1.f 0
  have x1 : W.cell? ⟨w.heap.size, 1, none⟩ = some (.int .u16 x.mru.toNat) := HW.out.1.c 1
  have f1 : W.frozen? ⟨w.heap.size, 1, none⟩ = false := HW.out.1.f 1
  have x2 : W.cell? ⟨w.heap.size, 2, none⟩ = some (.bool x.ha) := HW.out.1.c 2
  have f2 : W.frozen? ⟨w.heap.size, 2, none⟩ = false := HW.out.1.f 2
  have x3 : W.cell? ⟨w.heap.size, 3, none⟩ = some (.int .u32 x.accm.toNat) := HW.out.1.c 3
  have f3 : W.frozen? ⟨w.heap.size, 3, none⟩ = false := HW.out.1.f 3
  have x4 : W.cell? ⟨w.heap.size, 4, none⟩ = some (.int .u8 x.auth.toNat) := HW.out.1.c 4
  have f4 : W.frozen? ⟨w.heap.size, 4, none⟩ = false := HW.out.1.f 4
  have x5 : W.cell? ⟨w.heap.size, 5, none⟩ = some (.bool x.hg) := HW.out.1.c 5
  have f5 : W.frozen? ⟨w.heap.size, 5, none⟩ = false := HW.out.1.f 5
  have x6 : W.cell? ⟨w.heap.size, 6, none⟩ = some (.int .u32 x.magic.toNat) := HW.out.1.c 6
  have f6 : W.frozen? ⟨w.heap.size, 6, none⟩ = false := HW.out.1.f 6
  have x7 : W.cell? ⟨w.heap.size, 7, none⟩ = some (.bool x.pfc) := HW.out.1.c 7
  have f7 : W.frozen? ⟨w.heap.size, 7, none⟩ = false := HW.out.1.f 7
  have x8 : W.cell? ⟨w.heap.size, 8, none⟩ = some (.bool x.acfc) := HW.out.1.c 8
  have f8 : W.frozen? ⟨w.heap.size, 8, none⟩ = false := HW.out.1.f 8
  have hs : d.size = 2 := by rw [e] at hg; exact of_decide_eq_true hg
  have hv : val d.toList < 65536 := by have := val_lt d.toList; rw [← size_toList, hs] at this; omega
  have C1 := Lib.hid (fun W => rvalue_any d W (by omega))
  have HY : Hid (({ x with hm := true, mru := UInt16.ofNat (val d.toList) } : Lcp) = say x (t, d)) := by show _ = _; rw [e]; rfl
  have HC := Lib.hid (u16_cast hv)
  have hv1 : (val d.toList : Int) ≤ 65535 := by omega
  have hv2 : (0 : Int) ≤ (val d.toList : Int) := by omega
  clear hv hs hg e
  generalize val d.toList = n at *
  obtain ⟨V, hV, HV⟩ : ∃ V, (W.setCell ⟨w.heap.size, 0, none⟩ (.bool true)).setCell ⟨w.heap.size, 1, none⟩ (.int .u16 (n : Nat)) = V ∧ Hid (LAt V w.heap.size ({ x with hm := true, mru := UInt16.ofNat n } : Lcp) ∧ LAt V (w.heap.size + 1 + 1) lz ∧ Below w.heap.size w V) :=
    ⟨_, rfl, by have := (Blk.set HW.out.1 0 (.bool true)).set 1 (.int .u16 (n : Nat)); rw [← HC.out] at this ⊢; exact this, Blk.moves HW.out.2.2.1 (((Moves.refl (fun k => k = w.heap.size) W).setCell ⟨w.heap.size, 0, none⟩ (fun _ => rfl) _).setCell ⟨w.heap.size, 1, none⟩ (fun _ => rfl) _) (by omega), HW.out.2.2.2.1.trans ((((Moves.refl (fun k => k = w.heap.size) W).setCell ⟨w.heap.size, 0, none⟩ (fun _ => rfl) _).setCell ⟨w.heap.size, 1, none⟩ (fun _ => rfl) _).below HW.out.2.2.2.1.size (fun k e => by omega))⟩
  have c0 : V.cell? ⟨w.heap.size, 0, none⟩ = some (.bool true) := HV.out.1.c 0
  have c1 : V.cell? ⟨w.heap.size, 1, none⟩ = some (.int .u16 (n : Nat)) := (HV.out.1.c 1).trans (by show some _ = _; rw [← HC.out])
  have c2 : V.cell? ⟨w.heap.size, 2, none⟩ = some (.bool x.ha) := HV.out.1.c 2
  have c3 : V.cell? ⟨w.heap.size, 3, none⟩ = some (.int .u32 x.accm.toNat) := HV.out.1.c 3
  have c4 : V.cell? ⟨w.heap.size, 4, none⟩ = some (.int .u8 x.auth.toNat) := HV.out.1.c 4
  have c5 : V.cell? ⟨w.heap.size, 5, none⟩ = some (.bool x.hg) := HV.out.1.c 5
  have c6 : V.cell? ⟨w.heap.size, 6, none⟩ = some (.int .u32 x.magic.toNat) := HV.out.1.c 6
  have c7 : V.cell? ⟨w.heap.size, 7, none⟩ = some (.bool x.pfc) := HV.out.1.c 7
  have c8 : V.cell? ⟨w.heap.size, 8, none⟩ = some (.bool x.acfc) := HV.out.1.c 8
  have z0 : V.cell? ⟨w.heap.size + 1 + 1, 0, none⟩ = some (Value.bool false) := HV.out.2.1.c 0
  have g0 : V.frozen? ⟨w.heap.size + 1 + 1, 0, none⟩ = false := HV.out.2.1.f 0
  have z1 : V.cell? ⟨w.heap.size + 1 + 1, 1, none⟩ = some (.int .u16 0) := HV.out.2.1.c 1
  have g1 : V.frozen? ⟨w.heap.size + 1 + 1, 1, none⟩ = false := HV.out.2.1.f 1
  have z2 : V.cell? ⟨w.heap.size + 1 + 1, 2, none⟩ = some (.bool false) := HV.out.2.1.c 2
  have g2 : V.frozen? ⟨w.heap.size + 1 + 1, 2, none⟩ = false := HV.out.2.1.f 2
  have z3 : V.cell? ⟨w.heap.size + 1 + 1, 3, none⟩ = some (.int .u32 0) := HV.out.2.1.c 3
  have g3 : V.frozen? ⟨w.heap.size + 1 + 1, 3, none⟩ = false := HV.out.2.1.f 3
  have z4 : V.cell? ⟨w.heap.size + 1 + 1, 4, none⟩ = some (.int .u8 0) := HV.out.2.1.c 4
  have g4 : V.frozen? ⟨w.heap.size + 1 + 1, 4, none⟩ = false := HV.out.2.1.f 4
  have z5 : V.cell? ⟨w.heap.size + 1 + 1, 5, none⟩ = some (.bool false) := HV.out.2.1.c 5
  have g5 : V.frozen? ⟨w.heap.size + 1 + 1, 5, none⟩ = false := HV.out.2.1.f 5
  have z6 : V.cell? ⟨w.heap.size + 1 + 1, 6, none⟩ = some (.int .u32 0) := HV.out.2.1.c 6
  have g6 : V.frozen? ⟨w.heap.size + 1 + 1, 6, none⟩ = false := HV.out.2.1.f 6
  have z7 : V.cell? ⟨w.heap.size + 1 + 1, 7, none⟩ = some (.bool false) := HV.out.2.1.c 7
  have g7 : V.frozen? ⟨w.heap.size + 1 + 1, 7, none⟩ = false := HV.out.2.1.f 7
  have z8 : V.cell? ⟨w.heap.size + 1 + 1, 8, none⟩ = some (.bool false) := HV.out.2.1.c 8
  have g8 : V.frozen? ⟨w.heap.size + 1 + 1, 8, none⟩ = false := HV.out.2.1.f 8
  go_enter Tryz.func113, Tryz.ntmps113
  go_wp2_with fail
  refine (C1.out _).mono ?_
  rintro e w3 ⟨rfl, hw3⟩
  obtain rfl := hw3.symm
  clear hW C1
  go_wp2
  rw [← HC.out]
  have HR := setL_blk (y := ({ x with hm := true, mru := UInt16.ofNat n } : Lcp)) HV.out.2.1
  have HBe := setL_below HV.out.2.2 HV.out.2.2.size (g := w.heap.size + 1 + 1) (by omega) (lv ({ x with hm := true, mru := UInt16.ofNat n } : Lcp))
  (try simp only [Exit.inBlock, Exit.then])
  refine bodyPost_ret (results_cell_row rfl _ _ (w.heap.size + 1 + 1) _ (lv ({ x with hm := true, mru := UInt16.ofNat n } : Lcp)).toArray _ _ rfl HR Tryz.underlying37 rfl (by kernel_rfl)) rfl ?_
  exact ⟨by rw [← HY.out], HBe⟩
set_option maxHeartbeats 2000000 in
set_option maxRecDepth 100000 in
theorem rset2 (t : UInt8) (d : ByteArray) (x : Lcp) (w : World) (e : t = 2) (hg : good (t, d) = true) : Calls Tryz.prog 113 #[.agg (lv x).toArray, .agg #[.int .u8 t.toNat, .string d]] w fun e w' => e = .returned (.agg (lv (say x (t, d))).toArray) ∧ Below w.heap.size w w' := by
  show Calls Tryz.prog 113 #[.agg #[Value.bool x.hm, .int .u16 x.mru.toNat, .bool x.ha, .int .u32 x.accm.toNat, .int .u8 x.auth.toNat, .bool x.hg, .int .u32 x.magic.toNat, .bool x.pfc, .bool x.acfc], .agg #[.int .u8 t.toNat, .string d]] w fun e w' => e = .returned (.agg (lv (say x (t, d))).toArray) ∧ Below w.heap.size w w'
  obtain ⟨W, hW, HW⟩ := boxA w x t d
  have q1 : ((t.toNat : Int) == 1) = false := u8_not (n := 1) (by rw [e]; decide)
  have q2 : ((t.toNat : Int) == 2) = true := u8_is (n := 2) (by rw [e]; rfl)
  have q5 : ((t.toNat : Int) == 5) = false := u8_not (n := 5) (by rw [e]; decide)
  have q3 : ((t.toNat : Int) == 3) = false := u8_not (n := 3) (by rw [e]; decide)
  have q7 : ((t.toNat : Int) == 7) = false := u8_not (n := 7) (by rw [e]; decide)
  have q8 : ((t.toNat : Int) == 8) = false := u8_not (n := 8) (by rw [e]; decide)
  have o0 : W.cell? ⟨w.heap.size + 1, 0, none⟩ = some (.int .u8 t.toNat) := HW.out.2.1.c0
  have o1 : W.cell? ⟨w.heap.size + 1, 1, none⟩ = some (.string d) := HW.out.2.1.c1
  have x0 : W.cell? ⟨w.heap.size, 0, none⟩ = some (Value.bool x.hm) := HW.out.1.c 0
  have f0 : W.frozen? ⟨w.heap.size, 0, none⟩ = false := HW.out.1.f 0
  have x1 : W.cell? ⟨w.heap.size, 1, none⟩ = some (.int .u16 x.mru.toNat) := HW.out.1.c 1
  have f1 : W.frozen? ⟨w.heap.size, 1, none⟩ = false := HW.out.1.f 1
  have x2 : W.cell? ⟨w.heap.size, 2, none⟩ = some (.bool x.ha) := HW.out.1.c 2
  have f2 : W.frozen? ⟨w.heap.size, 2, none⟩ = false := HW.out.1.f 2
  have x3 : W.cell? ⟨w.heap.size, 3, none⟩ = some (.int .u32 x.accm.toNat) := HW.out.1.c 3
  have f3 : W.frozen? ⟨w.heap.size, 3, none⟩ = false := HW.out.1.f 3
  have x4 : W.cell? ⟨w.heap.size, 4, none⟩ = some (.int .u8 x.auth.toNat) := HW.out.1.c 4
  have f4 : W.frozen? ⟨w.heap.size, 4, none⟩ = false := HW.out.1.f 4
  have x5 : W.cell? ⟨w.heap.size, 5, none⟩ = some (.bool x.hg) := HW.out.1.c 5
  have f5 : W.frozen? ⟨w.heap.size, 5, none⟩ = false := HW.out.1.f 5
  have x6 : W.cell? ⟨w.heap.size, 6, none⟩ = some (.int .u32 x.magic.toNat) := HW.out.1.c 6
  have f6 : W.frozen? ⟨w.heap.size, 6, none⟩ = false := HW.out.1.f 6
  have x7 : W.cell? ⟨w.heap.size, 7, none⟩ = some (.bool x.pfc) := HW.out.1.c 7
  have f7 : W.frozen? ⟨w.heap.size, 7, none⟩ = false := HW.out.1.f 7
  have x8 : W.cell? ⟨w.heap.size, 8, none⟩ = some (.bool x.acfc) := HW.out.1.c 8
  have f8 : W.frozen? ⟨w.heap.size, 8, none⟩ = false := HW.out.1.f 8
  have hs : d.size = 4 := by rw [e] at hg; exact of_decide_eq_true hg
  have hv : val d.toList < 4294967296 := by have := val_lt d.toList; rw [← size_toList, hs] at this; omega
  have C1 := Lib.hid (fun W => rvalue_any d W (by omega))
  have HY : Hid (({ x with ha := true, accm := UInt32.ofNat (val d.toList) } : Lcp) = say x (t, d)) := by show _ = _; rw [e]; rfl
  have HC := Lib.hid (u32_cast hv)
  have hv1 : (val d.toList : Int) ≤ 4294967295 := by omega
  have hv2 : (0 : Int) ≤ (val d.toList : Int) := by omega
  clear hv hs hg e
  generalize val d.toList = n at *
  obtain ⟨V, hV, HV⟩ : ∃ V, (W.setCell ⟨w.heap.size, 2, none⟩ (.bool true)).setCell ⟨w.heap.size, 3, none⟩ (.int .u32 (n : Nat)) = V ∧ Hid (LAt V w.heap.size ({ x with ha := true, accm := UInt32.ofNat n } : Lcp) ∧ LAt V (w.heap.size + 1 + 1) lz ∧ Below w.heap.size w V) :=
    ⟨_, rfl, by have := (Blk.set HW.out.1 2 (.bool true)).set 3 (.int .u32 (n : Nat)); rw [← HC.out] at this ⊢; exact this, Blk.moves HW.out.2.2.1 (((Moves.refl (fun k => k = w.heap.size) W).setCell ⟨w.heap.size, 2, none⟩ (fun _ => rfl) _).setCell ⟨w.heap.size, 3, none⟩ (fun _ => rfl) _) (by omega), HW.out.2.2.2.1.trans ((((Moves.refl (fun k => k = w.heap.size) W).setCell ⟨w.heap.size, 2, none⟩ (fun _ => rfl) _).setCell ⟨w.heap.size, 3, none⟩ (fun _ => rfl) _).below HW.out.2.2.2.1.size (fun k e => by omega))⟩
  have c0 : V.cell? ⟨w.heap.size, 0, none⟩ = some (Value.bool x.hm) := HV.out.1.c 0
  have c1 : V.cell? ⟨w.heap.size, 1, none⟩ = some (.int .u16 x.mru.toNat) := HV.out.1.c 1
  have c2 : V.cell? ⟨w.heap.size, 2, none⟩ = some (.bool true) := HV.out.1.c 2
  have c3 : V.cell? ⟨w.heap.size, 3, none⟩ = some (.int .u32 (n : Nat)) := (HV.out.1.c 3).trans (by show some _ = _; rw [← HC.out])
  have c4 : V.cell? ⟨w.heap.size, 4, none⟩ = some (.int .u8 x.auth.toNat) := HV.out.1.c 4
  have c5 : V.cell? ⟨w.heap.size, 5, none⟩ = some (.bool x.hg) := HV.out.1.c 5
  have c6 : V.cell? ⟨w.heap.size, 6, none⟩ = some (.int .u32 x.magic.toNat) := HV.out.1.c 6
  have c7 : V.cell? ⟨w.heap.size, 7, none⟩ = some (.bool x.pfc) := HV.out.1.c 7
  have c8 : V.cell? ⟨w.heap.size, 8, none⟩ = some (.bool x.acfc) := HV.out.1.c 8
  have z0 : V.cell? ⟨w.heap.size + 1 + 1, 0, none⟩ = some (Value.bool false) := HV.out.2.1.c 0
  have g0 : V.frozen? ⟨w.heap.size + 1 + 1, 0, none⟩ = false := HV.out.2.1.f 0
  have z1 : V.cell? ⟨w.heap.size + 1 + 1, 1, none⟩ = some (.int .u16 0) := HV.out.2.1.c 1
  have g1 : V.frozen? ⟨w.heap.size + 1 + 1, 1, none⟩ = false := HV.out.2.1.f 1
  have z2 : V.cell? ⟨w.heap.size + 1 + 1, 2, none⟩ = some (.bool false) := HV.out.2.1.c 2
  have g2 : V.frozen? ⟨w.heap.size + 1 + 1, 2, none⟩ = false := HV.out.2.1.f 2
  have z3 : V.cell? ⟨w.heap.size + 1 + 1, 3, none⟩ = some (.int .u32 0) := HV.out.2.1.c 3
  have g3 : V.frozen? ⟨w.heap.size + 1 + 1, 3, none⟩ = false := HV.out.2.1.f 3
  have z4 : V.cell? ⟨w.heap.size + 1 + 1, 4, none⟩ = some (.int .u8 0) := HV.out.2.1.c 4
  have g4 : V.frozen? ⟨w.heap.size + 1 + 1, 4, none⟩ = false := HV.out.2.1.f 4
  have z5 : V.cell? ⟨w.heap.size + 1 + 1, 5, none⟩ = some (.bool false) := HV.out.2.1.c 5
  have g5 : V.frozen? ⟨w.heap.size + 1 + 1, 5, none⟩ = false := HV.out.2.1.f 5
  have z6 : V.cell? ⟨w.heap.size + 1 + 1, 6, none⟩ = some (.int .u32 0) := HV.out.2.1.c 6
  have g6 : V.frozen? ⟨w.heap.size + 1 + 1, 6, none⟩ = false := HV.out.2.1.f 6
  have z7 : V.cell? ⟨w.heap.size + 1 + 1, 7, none⟩ = some (.bool false) := HV.out.2.1.c 7
  have g7 : V.frozen? ⟨w.heap.size + 1 + 1, 7, none⟩ = false := HV.out.2.1.f 7
  have z8 : V.cell? ⟨w.heap.size + 1 + 1, 8, none⟩ = some (.bool false) := HV.out.2.1.c 8
  have g8 : V.frozen? ⟨w.heap.size + 1 + 1, 8, none⟩ = false := HV.out.2.1.f 8
  go_enter Tryz.func113, Tryz.ntmps113
  go_wp2_with fail
  refine (C1.out _).mono ?_
  rintro e w3 ⟨rfl, hw3⟩
  obtain rfl := hw3.symm
  clear hW C1
  go_wp2
  rw [← HC.out]
  have HR := setL_blk (y := ({ x with ha := true, accm := UInt32.ofNat n } : Lcp)) HV.out.2.1
  have HBe := setL_below HV.out.2.2 HV.out.2.2.size (g := w.heap.size + 1 + 1) (by omega) (lv ({ x with ha := true, accm := UInt32.ofNat n } : Lcp))
  (try simp only [Exit.inBlock, Exit.then])
  refine bodyPost_ret (results_cell_row rfl _ _ (w.heap.size + 1 + 1) _ (lv ({ x with ha := true, accm := UInt32.ofNat n } : Lcp)).toArray _ _ rfl HR Tryz.underlying37 rfl (by kernel_rfl)) rfl ?_
  exact ⟨by rw [← HY.out], HBe⟩
set_option maxHeartbeats 2000000 in
set_option maxRecDepth 100000 in
theorem rset3 (t : UInt8) (d : ByteArray) (x : Lcp) (w : World) (e : t = 3) (hg : good (t, d) = true) : Calls Tryz.prog 113 #[.agg (lv x).toArray, .agg #[.int .u8 t.toNat, .string d]] w fun e w' => e = .returned (.agg (lv (say x (t, d))).toArray) ∧ Below w.heap.size w w' := by
  show Calls Tryz.prog 113 #[.agg #[Value.bool x.hm, .int .u16 x.mru.toNat, .bool x.ha, .int .u32 x.accm.toNat, .int .u8 x.auth.toNat, .bool x.hg, .int .u32 x.magic.toNat, .bool x.pfc, .bool x.acfc], .agg #[.int .u8 t.toNat, .string d]] w fun e w' => e = .returned (.agg (lv (say x (t, d))).toArray) ∧ Below w.heap.size w w'
  obtain ⟨W, hW, HW⟩ := boxA w x t d
  have q1 : ((t.toNat : Int) == 1) = false := u8_not (n := 1) (by rw [e]; decide)
  have q2 : ((t.toNat : Int) == 2) = false := u8_not (n := 2) (by rw [e]; decide)
  have q5 : ((t.toNat : Int) == 5) = false := u8_not (n := 5) (by rw [e]; decide)
  have q3 : ((t.toNat : Int) == 3) = true := u8_is (n := 3) (by rw [e]; rfl)
  have q7 : ((t.toNat : Int) == 7) = false := u8_not (n := 7) (by rw [e]; decide)
  have q8 : ((t.toNat : Int) == 8) = false := u8_not (n := 8) (by rw [e]; decide)
  have o0 : W.cell? ⟨w.heap.size + 1, 0, none⟩ = some (.int .u8 t.toNat) := HW.out.2.1.c0
  have o1 : W.cell? ⟨w.heap.size + 1, 1, none⟩ = some (.string d) := HW.out.2.1.c1
  have x0 : W.cell? ⟨w.heap.size, 0, none⟩ = some (Value.bool x.hm) := HW.out.1.c 0
  have f0 : W.frozen? ⟨w.heap.size, 0, none⟩ = false := HW.out.1.f 0
  have x1 : W.cell? ⟨w.heap.size, 1, none⟩ = some (.int .u16 x.mru.toNat) := HW.out.1.c 1
  have f1 : W.frozen? ⟨w.heap.size, 1, none⟩ = false := HW.out.1.f 1
  have x2 : W.cell? ⟨w.heap.size, 2, none⟩ = some (.bool x.ha) := HW.out.1.c 2
  have f2 : W.frozen? ⟨w.heap.size, 2, none⟩ = false := HW.out.1.f 2
  have x3 : W.cell? ⟨w.heap.size, 3, none⟩ = some (.int .u32 x.accm.toNat) := HW.out.1.c 3
  have f3 : W.frozen? ⟨w.heap.size, 3, none⟩ = false := HW.out.1.f 3
  have x4 : W.cell? ⟨w.heap.size, 4, none⟩ = some (.int .u8 x.auth.toNat) := HW.out.1.c 4
  have f4 : W.frozen? ⟨w.heap.size, 4, none⟩ = false := HW.out.1.f 4
  have x5 : W.cell? ⟨w.heap.size, 5, none⟩ = some (.bool x.hg) := HW.out.1.c 5
  have f5 : W.frozen? ⟨w.heap.size, 5, none⟩ = false := HW.out.1.f 5
  have x6 : W.cell? ⟨w.heap.size, 6, none⟩ = some (.int .u32 x.magic.toNat) := HW.out.1.c 6
  have f6 : W.frozen? ⟨w.heap.size, 6, none⟩ = false := HW.out.1.f 6
  have x7 : W.cell? ⟨w.heap.size, 7, none⟩ = some (.bool x.pfc) := HW.out.1.c 7
  have f7 : W.frozen? ⟨w.heap.size, 7, none⟩ = false := HW.out.1.f 7
  have x8 : W.cell? ⟨w.heap.size, 8, none⟩ = some (.bool x.acfc) := HW.out.1.c 8
  have f8 : W.frozen? ⟨w.heap.size, 8, none⟩ = false := HW.out.1.f 8
  have HK : Hid (authK d = 1 ∧ d.size = 2 ∨ authK d = 2 ∧ d.size = 3) := by
    show _ ∨ _
    have h0 : authK d ≠ 0 := by rw [e] at hg; exact (by simpa [good] using hg)
    by_cases h1 : d = bOf [192, 35]
    · exact .inl ⟨authK_1 h1, by rw [h1]; rfl⟩
    · by_cases h2 : d = bOf [194, 35, 5]
      · exact .inr ⟨authK_2 h1 h2, by rw [h2]; rfl⟩
      · exact absurd (authK_0 h1 h2) h0
  have HY : Hid (({ x with auth := authK d } : Lcp) = say x (t, d)) := by show _ = _; rw [e]; rfl
  clear e hg
  rcases HK.out with ⟨h1, h2⟩ | ⟨h1, h2⟩
  · have p3 : ((d.size : Int) == 3) = false := by rw [h2]; rfl
    rw [h1] at HY
    clear h1 h2 HK
    obtain ⟨V, hV, HV⟩ : ∃ V, W.setCell ⟨w.heap.size, 4, none⟩ (.int .u8 1) = V ∧ Hid (LAt V w.heap.size ({ x with auth := 1 } : Lcp) ∧ LAt V (w.heap.size + 1 + 1) lz ∧ Below w.heap.size w V) :=
      ⟨_, rfl, Blk.set HW.out.1 4 _, Blk.moves HW.out.2.2.1 ((Moves.refl (fun k => k = w.heap.size) W).setCell ⟨w.heap.size, 4, none⟩ (fun _ => rfl) _) (by omega), HW.out.2.2.2.1.trans (((Moves.refl (fun k => k = w.heap.size) W).setCell ⟨w.heap.size, 4, none⟩ (fun _ => rfl) _).below HW.out.2.2.2.1.size (fun k e => by omega))⟩
    have c0 : V.cell? ⟨w.heap.size, 0, none⟩ = some (Value.bool x.hm) := HV.out.1.c 0
    have c1 : V.cell? ⟨w.heap.size, 1, none⟩ = some (.int .u16 x.mru.toNat) := HV.out.1.c 1
    have c2 : V.cell? ⟨w.heap.size, 2, none⟩ = some (.bool x.ha) := HV.out.1.c 2
    have c3 : V.cell? ⟨w.heap.size, 3, none⟩ = some (.int .u32 x.accm.toNat) := HV.out.1.c 3
    have c4 : V.cell? ⟨w.heap.size, 4, none⟩ = some (.int .u8 1) := HV.out.1.c 4
    have c5 : V.cell? ⟨w.heap.size, 5, none⟩ = some (.bool x.hg) := HV.out.1.c 5
    have c6 : V.cell? ⟨w.heap.size, 6, none⟩ = some (.int .u32 x.magic.toNat) := HV.out.1.c 6
    have c7 : V.cell? ⟨w.heap.size, 7, none⟩ = some (.bool x.pfc) := HV.out.1.c 7
    have c8 : V.cell? ⟨w.heap.size, 8, none⟩ = some (.bool x.acfc) := HV.out.1.c 8
    have z0 : V.cell? ⟨w.heap.size + 1 + 1, 0, none⟩ = some (Value.bool false) := HV.out.2.1.c 0
    have g0 : V.frozen? ⟨w.heap.size + 1 + 1, 0, none⟩ = false := HV.out.2.1.f 0
    have z1 : V.cell? ⟨w.heap.size + 1 + 1, 1, none⟩ = some (.int .u16 0) := HV.out.2.1.c 1
    have g1 : V.frozen? ⟨w.heap.size + 1 + 1, 1, none⟩ = false := HV.out.2.1.f 1
    have z2 : V.cell? ⟨w.heap.size + 1 + 1, 2, none⟩ = some (.bool false) := HV.out.2.1.c 2
    have g2 : V.frozen? ⟨w.heap.size + 1 + 1, 2, none⟩ = false := HV.out.2.1.f 2
    have z3 : V.cell? ⟨w.heap.size + 1 + 1, 3, none⟩ = some (.int .u32 0) := HV.out.2.1.c 3
    have g3 : V.frozen? ⟨w.heap.size + 1 + 1, 3, none⟩ = false := HV.out.2.1.f 3
    have z4 : V.cell? ⟨w.heap.size + 1 + 1, 4, none⟩ = some (.int .u8 0) := HV.out.2.1.c 4
    have g4 : V.frozen? ⟨w.heap.size + 1 + 1, 4, none⟩ = false := HV.out.2.1.f 4
    have z5 : V.cell? ⟨w.heap.size + 1 + 1, 5, none⟩ = some (.bool false) := HV.out.2.1.c 5
    have g5 : V.frozen? ⟨w.heap.size + 1 + 1, 5, none⟩ = false := HV.out.2.1.f 5
    have z6 : V.cell? ⟨w.heap.size + 1 + 1, 6, none⟩ = some (.int .u32 0) := HV.out.2.1.c 6
    have g6 : V.frozen? ⟨w.heap.size + 1 + 1, 6, none⟩ = false := HV.out.2.1.f 6
    have z7 : V.cell? ⟨w.heap.size + 1 + 1, 7, none⟩ = some (.bool false) := HV.out.2.1.c 7
    have g7 : V.frozen? ⟨w.heap.size + 1 + 1, 7, none⟩ = false := HV.out.2.1.f 7
    have z8 : V.cell? ⟨w.heap.size + 1 + 1, 8, none⟩ = some (.bool false) := HV.out.2.1.c 8
    have g8 : V.frozen? ⟨w.heap.size + 1 + 1, 8, none⟩ = false := HV.out.2.1.f 8
    have ov : V.cell? ⟨w.heap.size + 1, 1, none⟩ = some (.string d) := by rw [← hV]; exact (At.c1 (Blk.moves HW.out.2.1 ((Moves.refl (fun k => k = w.heap.size) W).setCell ⟨w.heap.size, 4, none⟩ (fun _ => rfl) _) (by omega)))
    go_enter Tryz.func113, Tryz.ntmps113
    go_wp2
    clear hW
    have HR := setL_blk (y := ({ x with auth := 1 } : Lcp)) HV.out.2.1
    have HBe := setL_below HV.out.2.2 HV.out.2.2.size (g := w.heap.size + 1 + 1) (by omega) (lv ({ x with auth := 1 } : Lcp))
    (try simp only [Exit.inBlock, Exit.then])
    refine bodyPost_ret (results_cell_row rfl _ _ (w.heap.size + 1 + 1) _ (lv ({ x with auth := 1 } : Lcp)).toArray _ _ rfl HR Tryz.underlying37 rfl (by kernel_rfl)) rfl ?_
    exact ⟨by rw [← HY.out], HBe⟩
  · have p3 : ((d.size : Int) == 3) = true := by rw [h2]; rfl
    rw [h1] at HY
    clear h1 h2 HK
    obtain ⟨V, hV, HV⟩ : ∃ V, (W.setCell ⟨w.heap.size, 4, none⟩ (.int .u8 1)).setCell ⟨w.heap.size, 4, none⟩ (.int .u8 2) = V ∧ Hid (LAt V w.heap.size ({ x with auth := 2 } : Lcp) ∧ LAt V (w.heap.size + 1 + 1) lz ∧ Below w.heap.size w V) :=
      ⟨_, rfl, (Blk.set HW.out.1 4 (.int .u8 1)).set 4 _, Blk.moves HW.out.2.2.1 (((Moves.refl (fun k => k = w.heap.size) W).setCell ⟨w.heap.size, 4, none⟩ (fun _ => rfl) _).setCell ⟨w.heap.size, 4, none⟩ (fun _ => rfl) _) (by omega), HW.out.2.2.2.1.trans ((((Moves.refl (fun k => k = w.heap.size) W).setCell ⟨w.heap.size, 4, none⟩ (fun _ => rfl) _).setCell ⟨w.heap.size, 4, none⟩ (fun _ => rfl) _).below HW.out.2.2.2.1.size (fun k e => by omega))⟩
    have c0 : V.cell? ⟨w.heap.size, 0, none⟩ = some (Value.bool x.hm) := HV.out.1.c 0
    have c1 : V.cell? ⟨w.heap.size, 1, none⟩ = some (.int .u16 x.mru.toNat) := HV.out.1.c 1
    have c2 : V.cell? ⟨w.heap.size, 2, none⟩ = some (.bool x.ha) := HV.out.1.c 2
    have c3 : V.cell? ⟨w.heap.size, 3, none⟩ = some (.int .u32 x.accm.toNat) := HV.out.1.c 3
    have c4 : V.cell? ⟨w.heap.size, 4, none⟩ = some (.int .u8 2) := HV.out.1.c 4
    have c5 : V.cell? ⟨w.heap.size, 5, none⟩ = some (.bool x.hg) := HV.out.1.c 5
    have c6 : V.cell? ⟨w.heap.size, 6, none⟩ = some (.int .u32 x.magic.toNat) := HV.out.1.c 6
    have c7 : V.cell? ⟨w.heap.size, 7, none⟩ = some (.bool x.pfc) := HV.out.1.c 7
    have c8 : V.cell? ⟨w.heap.size, 8, none⟩ = some (.bool x.acfc) := HV.out.1.c 8
    have z0 : V.cell? ⟨w.heap.size + 1 + 1, 0, none⟩ = some (Value.bool false) := HV.out.2.1.c 0
    have g0 : V.frozen? ⟨w.heap.size + 1 + 1, 0, none⟩ = false := HV.out.2.1.f 0
    have z1 : V.cell? ⟨w.heap.size + 1 + 1, 1, none⟩ = some (.int .u16 0) := HV.out.2.1.c 1
    have g1 : V.frozen? ⟨w.heap.size + 1 + 1, 1, none⟩ = false := HV.out.2.1.f 1
    have z2 : V.cell? ⟨w.heap.size + 1 + 1, 2, none⟩ = some (.bool false) := HV.out.2.1.c 2
    have g2 : V.frozen? ⟨w.heap.size + 1 + 1, 2, none⟩ = false := HV.out.2.1.f 2
    have z3 : V.cell? ⟨w.heap.size + 1 + 1, 3, none⟩ = some (.int .u32 0) := HV.out.2.1.c 3
    have g3 : V.frozen? ⟨w.heap.size + 1 + 1, 3, none⟩ = false := HV.out.2.1.f 3
    have z4 : V.cell? ⟨w.heap.size + 1 + 1, 4, none⟩ = some (.int .u8 0) := HV.out.2.1.c 4
    have g4 : V.frozen? ⟨w.heap.size + 1 + 1, 4, none⟩ = false := HV.out.2.1.f 4
    have z5 : V.cell? ⟨w.heap.size + 1 + 1, 5, none⟩ = some (.bool false) := HV.out.2.1.c 5
    have g5 : V.frozen? ⟨w.heap.size + 1 + 1, 5, none⟩ = false := HV.out.2.1.f 5
    have z6 : V.cell? ⟨w.heap.size + 1 + 1, 6, none⟩ = some (.int .u32 0) := HV.out.2.1.c 6
    have g6 : V.frozen? ⟨w.heap.size + 1 + 1, 6, none⟩ = false := HV.out.2.1.f 6
    have z7 : V.cell? ⟨w.heap.size + 1 + 1, 7, none⟩ = some (.bool false) := HV.out.2.1.c 7
    have g7 : V.frozen? ⟨w.heap.size + 1 + 1, 7, none⟩ = false := HV.out.2.1.f 7
    have z8 : V.cell? ⟨w.heap.size + 1 + 1, 8, none⟩ = some (.bool false) := HV.out.2.1.c 8
    have g8 : V.frozen? ⟨w.heap.size + 1 + 1, 8, none⟩ = false := HV.out.2.1.f 8
    go_enter Tryz.func113, Tryz.ntmps113
    go_wp2
    clear hW
    have HR := setL_blk (y := ({ x with auth := 2 } : Lcp)) HV.out.2.1
    have HBe := setL_below HV.out.2.2 HV.out.2.2.size (g := w.heap.size + 1 + 1) (by omega) (lv ({ x with auth := 2 } : Lcp))
    (try simp only [Exit.inBlock, Exit.then])
    refine bodyPost_ret (results_cell_row rfl _ _ (w.heap.size + 1 + 1) _ (lv ({ x with auth := 2 } : Lcp)).toArray _ _ rfl HR Tryz.underlying37 rfl (by kernel_rfl)) rfl ?_
    exact ⟨by rw [← HY.out], HBe⟩
set_option maxHeartbeats 2000000 in
set_option maxRecDepth 100000 in
theorem rset5 (t : UInt8) (d : ByteArray) (x : Lcp) (w : World) (e : t = 5) (hg : good (t, d) = true) : Calls Tryz.prog 113 #[.agg (lv x).toArray, .agg #[.int .u8 t.toNat, .string d]] w fun e w' => e = .returned (.agg (lv (say x (t, d))).toArray) ∧ Below w.heap.size w w' := by
  show Calls Tryz.prog 113 #[.agg #[Value.bool x.hm, .int .u16 x.mru.toNat, .bool x.ha, .int .u32 x.accm.toNat, .int .u8 x.auth.toNat, .bool x.hg, .int .u32 x.magic.toNat, .bool x.pfc, .bool x.acfc], .agg #[.int .u8 t.toNat, .string d]] w fun e w' => e = .returned (.agg (lv (say x (t, d))).toArray) ∧ Below w.heap.size w w'
  obtain ⟨W, hW, HW⟩ := boxA w x t d
  have q1 : ((t.toNat : Int) == 1) = false := u8_not (n := 1) (by rw [e]; decide)
  have q2 : ((t.toNat : Int) == 2) = false := u8_not (n := 2) (by rw [e]; decide)
  have q5 : ((t.toNat : Int) == 5) = true := u8_is (n := 5) (by rw [e]; rfl)
  have q3 : ((t.toNat : Int) == 3) = false := u8_not (n := 3) (by rw [e]; decide)
  have q7 : ((t.toNat : Int) == 7) = false := u8_not (n := 7) (by rw [e]; decide)
  have q8 : ((t.toNat : Int) == 8) = false := u8_not (n := 8) (by rw [e]; decide)
  have o0 : W.cell? ⟨w.heap.size + 1, 0, none⟩ = some (.int .u8 t.toNat) := HW.out.2.1.c0
  have o1 : W.cell? ⟨w.heap.size + 1, 1, none⟩ = some (.string d) := HW.out.2.1.c1
  have x0 : W.cell? ⟨w.heap.size, 0, none⟩ = some (Value.bool x.hm) := HW.out.1.c 0
  have f0 : W.frozen? ⟨w.heap.size, 0, none⟩ = false := HW.out.1.f 0
  have x1 : W.cell? ⟨w.heap.size, 1, none⟩ = some (.int .u16 x.mru.toNat) := HW.out.1.c 1
  have f1 : W.frozen? ⟨w.heap.size, 1, none⟩ = false := HW.out.1.f 1
  have x2 : W.cell? ⟨w.heap.size, 2, none⟩ = some (.bool x.ha) := HW.out.1.c 2
  have f2 : W.frozen? ⟨w.heap.size, 2, none⟩ = false := HW.out.1.f 2
  have x3 : W.cell? ⟨w.heap.size, 3, none⟩ = some (.int .u32 x.accm.toNat) := HW.out.1.c 3
  have f3 : W.frozen? ⟨w.heap.size, 3, none⟩ = false := HW.out.1.f 3
  have x4 : W.cell? ⟨w.heap.size, 4, none⟩ = some (.int .u8 x.auth.toNat) := HW.out.1.c 4
  have f4 : W.frozen? ⟨w.heap.size, 4, none⟩ = false := HW.out.1.f 4
  have x5 : W.cell? ⟨w.heap.size, 5, none⟩ = some (.bool x.hg) := HW.out.1.c 5
  have f5 : W.frozen? ⟨w.heap.size, 5, none⟩ = false := HW.out.1.f 5
  have x6 : W.cell? ⟨w.heap.size, 6, none⟩ = some (.int .u32 x.magic.toNat) := HW.out.1.c 6
  have f6 : W.frozen? ⟨w.heap.size, 6, none⟩ = false := HW.out.1.f 6
  have x7 : W.cell? ⟨w.heap.size, 7, none⟩ = some (.bool x.pfc) := HW.out.1.c 7
  have f7 : W.frozen? ⟨w.heap.size, 7, none⟩ = false := HW.out.1.f 7
  have x8 : W.cell? ⟨w.heap.size, 8, none⟩ = some (.bool x.acfc) := HW.out.1.c 8
  have f8 : W.frozen? ⟨w.heap.size, 8, none⟩ = false := HW.out.1.f 8
  have hs : d.size = 4 := by rw [e] at hg; exact of_decide_eq_true hg
  have hv : val d.toList < 4294967296 := by have := val_lt d.toList; rw [← size_toList, hs] at this; omega
  have C1 := Lib.hid (fun W => rvalue_any d W (by omega))
  have HY : Hid (({ x with hg := true, magic := UInt32.ofNat (val d.toList) } : Lcp) = say x (t, d)) := by show _ = _; rw [e]; rfl
  have HC := Lib.hid (u32_cast hv)
  have hv1 : (val d.toList : Int) ≤ 4294967295 := by omega
  have hv2 : (0 : Int) ≤ (val d.toList : Int) := by omega
  clear hv hs hg e
  generalize val d.toList = n at *
  obtain ⟨V, hV, HV⟩ : ∃ V, (W.setCell ⟨w.heap.size, 5, none⟩ (.bool true)).setCell ⟨w.heap.size, 6, none⟩ (.int .u32 (n : Nat)) = V ∧ Hid (LAt V w.heap.size ({ x with hg := true, magic := UInt32.ofNat n } : Lcp) ∧ LAt V (w.heap.size + 1 + 1) lz ∧ Below w.heap.size w V) :=
    ⟨_, rfl, by have := (Blk.set HW.out.1 5 (.bool true)).set 6 (.int .u32 (n : Nat)); rw [← HC.out] at this ⊢; exact this, Blk.moves HW.out.2.2.1 (((Moves.refl (fun k => k = w.heap.size) W).setCell ⟨w.heap.size, 5, none⟩ (fun _ => rfl) _).setCell ⟨w.heap.size, 6, none⟩ (fun _ => rfl) _) (by omega), HW.out.2.2.2.1.trans ((((Moves.refl (fun k => k = w.heap.size) W).setCell ⟨w.heap.size, 5, none⟩ (fun _ => rfl) _).setCell ⟨w.heap.size, 6, none⟩ (fun _ => rfl) _).below HW.out.2.2.2.1.size (fun k e => by omega))⟩
  have c0 : V.cell? ⟨w.heap.size, 0, none⟩ = some (Value.bool x.hm) := HV.out.1.c 0
  have c1 : V.cell? ⟨w.heap.size, 1, none⟩ = some (.int .u16 x.mru.toNat) := HV.out.1.c 1
  have c2 : V.cell? ⟨w.heap.size, 2, none⟩ = some (.bool x.ha) := HV.out.1.c 2
  have c3 : V.cell? ⟨w.heap.size, 3, none⟩ = some (.int .u32 x.accm.toNat) := HV.out.1.c 3
  have c4 : V.cell? ⟨w.heap.size, 4, none⟩ = some (.int .u8 x.auth.toNat) := HV.out.1.c 4
  have c5 : V.cell? ⟨w.heap.size, 5, none⟩ = some (.bool true) := HV.out.1.c 5
  have c6 : V.cell? ⟨w.heap.size, 6, none⟩ = some (.int .u32 (n : Nat)) := (HV.out.1.c 6).trans (by show some _ = _; rw [← HC.out])
  have c7 : V.cell? ⟨w.heap.size, 7, none⟩ = some (.bool x.pfc) := HV.out.1.c 7
  have c8 : V.cell? ⟨w.heap.size, 8, none⟩ = some (.bool x.acfc) := HV.out.1.c 8
  have z0 : V.cell? ⟨w.heap.size + 1 + 1, 0, none⟩ = some (Value.bool false) := HV.out.2.1.c 0
  have g0 : V.frozen? ⟨w.heap.size + 1 + 1, 0, none⟩ = false := HV.out.2.1.f 0
  have z1 : V.cell? ⟨w.heap.size + 1 + 1, 1, none⟩ = some (.int .u16 0) := HV.out.2.1.c 1
  have g1 : V.frozen? ⟨w.heap.size + 1 + 1, 1, none⟩ = false := HV.out.2.1.f 1
  have z2 : V.cell? ⟨w.heap.size + 1 + 1, 2, none⟩ = some (.bool false) := HV.out.2.1.c 2
  have g2 : V.frozen? ⟨w.heap.size + 1 + 1, 2, none⟩ = false := HV.out.2.1.f 2
  have z3 : V.cell? ⟨w.heap.size + 1 + 1, 3, none⟩ = some (.int .u32 0) := HV.out.2.1.c 3
  have g3 : V.frozen? ⟨w.heap.size + 1 + 1, 3, none⟩ = false := HV.out.2.1.f 3
  have z4 : V.cell? ⟨w.heap.size + 1 + 1, 4, none⟩ = some (.int .u8 0) := HV.out.2.1.c 4
  have g4 : V.frozen? ⟨w.heap.size + 1 + 1, 4, none⟩ = false := HV.out.2.1.f 4
  have z5 : V.cell? ⟨w.heap.size + 1 + 1, 5, none⟩ = some (.bool false) := HV.out.2.1.c 5
  have g5 : V.frozen? ⟨w.heap.size + 1 + 1, 5, none⟩ = false := HV.out.2.1.f 5
  have z6 : V.cell? ⟨w.heap.size + 1 + 1, 6, none⟩ = some (.int .u32 0) := HV.out.2.1.c 6
  have g6 : V.frozen? ⟨w.heap.size + 1 + 1, 6, none⟩ = false := HV.out.2.1.f 6
  have z7 : V.cell? ⟨w.heap.size + 1 + 1, 7, none⟩ = some (.bool false) := HV.out.2.1.c 7
  have g7 : V.frozen? ⟨w.heap.size + 1 + 1, 7, none⟩ = false := HV.out.2.1.f 7
  have z8 : V.cell? ⟨w.heap.size + 1 + 1, 8, none⟩ = some (.bool false) := HV.out.2.1.c 8
  have g8 : V.frozen? ⟨w.heap.size + 1 + 1, 8, none⟩ = false := HV.out.2.1.f 8
  go_enter Tryz.func113, Tryz.ntmps113
  go_wp2_with fail
  refine (C1.out _).mono ?_
  rintro e w3 ⟨rfl, hw3⟩
  obtain rfl := hw3.symm
  clear hW C1
  go_wp2
  rw [← HC.out]
  have HR := setL_blk (y := ({ x with hg := true, magic := UInt32.ofNat n } : Lcp)) HV.out.2.1
  have HBe := setL_below HV.out.2.2 HV.out.2.2.size (g := w.heap.size + 1 + 1) (by omega) (lv ({ x with hg := true, magic := UInt32.ofNat n } : Lcp))
  (try simp only [Exit.inBlock, Exit.then])
  refine bodyPost_ret (results_cell_row rfl _ _ (w.heap.size + 1 + 1) _ (lv ({ x with hg := true, magic := UInt32.ofNat n } : Lcp)).toArray _ _ rfl HR Tryz.underlying37 rfl (by kernel_rfl)) rfl ?_
  exact ⟨by rw [← HY.out], HBe⟩
set_option maxHeartbeats 2000000 in
set_option maxRecDepth 100000 in
theorem rset7 (t : UInt8) (d : ByteArray) (x : Lcp) (w : World) (e : t = 7) (hg : good (t, d) = true) : Calls Tryz.prog 113 #[.agg (lv x).toArray, .agg #[.int .u8 t.toNat, .string d]] w fun e w' => e = .returned (.agg (lv (say x (t, d))).toArray) ∧ Below w.heap.size w w' := by
  show Calls Tryz.prog 113 #[.agg #[Value.bool x.hm, .int .u16 x.mru.toNat, .bool x.ha, .int .u32 x.accm.toNat, .int .u8 x.auth.toNat, .bool x.hg, .int .u32 x.magic.toNat, .bool x.pfc, .bool x.acfc], .agg #[.int .u8 t.toNat, .string d]] w fun e w' => e = .returned (.agg (lv (say x (t, d))).toArray) ∧ Below w.heap.size w w'
  obtain ⟨W, hW, HW⟩ := boxA w x t d
  have q1 : ((t.toNat : Int) == 1) = false := u8_not (n := 1) (by rw [e]; decide)
  have q2 : ((t.toNat : Int) == 2) = false := u8_not (n := 2) (by rw [e]; decide)
  have q5 : ((t.toNat : Int) == 5) = false := u8_not (n := 5) (by rw [e]; decide)
  have q3 : ((t.toNat : Int) == 3) = false := u8_not (n := 3) (by rw [e]; decide)
  have q7 : ((t.toNat : Int) == 7) = true := u8_is (n := 7) (by rw [e]; rfl)
  have q8 : ((t.toNat : Int) == 8) = false := u8_not (n := 8) (by rw [e]; decide)
  have o0 : W.cell? ⟨w.heap.size + 1, 0, none⟩ = some (.int .u8 t.toNat) := HW.out.2.1.c0
  have o1 : W.cell? ⟨w.heap.size + 1, 1, none⟩ = some (.string d) := HW.out.2.1.c1
  have x0 : W.cell? ⟨w.heap.size, 0, none⟩ = some (Value.bool x.hm) := HW.out.1.c 0
  have f0 : W.frozen? ⟨w.heap.size, 0, none⟩ = false := HW.out.1.f 0
  have x1 : W.cell? ⟨w.heap.size, 1, none⟩ = some (.int .u16 x.mru.toNat) := HW.out.1.c 1
  have f1 : W.frozen? ⟨w.heap.size, 1, none⟩ = false := HW.out.1.f 1
  have x2 : W.cell? ⟨w.heap.size, 2, none⟩ = some (.bool x.ha) := HW.out.1.c 2
  have f2 : W.frozen? ⟨w.heap.size, 2, none⟩ = false := HW.out.1.f 2
  have x3 : W.cell? ⟨w.heap.size, 3, none⟩ = some (.int .u32 x.accm.toNat) := HW.out.1.c 3
  have f3 : W.frozen? ⟨w.heap.size, 3, none⟩ = false := HW.out.1.f 3
  have x4 : W.cell? ⟨w.heap.size, 4, none⟩ = some (.int .u8 x.auth.toNat) := HW.out.1.c 4
  have f4 : W.frozen? ⟨w.heap.size, 4, none⟩ = false := HW.out.1.f 4
  have x5 : W.cell? ⟨w.heap.size, 5, none⟩ = some (.bool x.hg) := HW.out.1.c 5
  have f5 : W.frozen? ⟨w.heap.size, 5, none⟩ = false := HW.out.1.f 5
  have x6 : W.cell? ⟨w.heap.size, 6, none⟩ = some (.int .u32 x.magic.toNat) := HW.out.1.c 6
  have f6 : W.frozen? ⟨w.heap.size, 6, none⟩ = false := HW.out.1.f 6
  have x7 : W.cell? ⟨w.heap.size, 7, none⟩ = some (.bool x.pfc) := HW.out.1.c 7
  have f7 : W.frozen? ⟨w.heap.size, 7, none⟩ = false := HW.out.1.f 7
  have x8 : W.cell? ⟨w.heap.size, 8, none⟩ = some (.bool x.acfc) := HW.out.1.c 8
  have f8 : W.frozen? ⟨w.heap.size, 8, none⟩ = false := HW.out.1.f 8
  have HY : Hid (({ x with pfc := true } : Lcp) = say x (t, d)) := by show _ = _; rw [e]; rfl
  clear e hg
  obtain ⟨V, hV, HV⟩ : ∃ V, W.setCell ⟨w.heap.size, 7, none⟩ (.bool true) = V ∧ Hid (LAt V w.heap.size ({ x with pfc := true } : Lcp) ∧ LAt V (w.heap.size + 1 + 1) lz ∧ Below w.heap.size w V) :=
    ⟨_, rfl, Blk.set HW.out.1 7 _, Blk.moves HW.out.2.2.1 ((Moves.refl (fun k => k = w.heap.size) W).setCell ⟨w.heap.size, 7, none⟩ (fun _ => rfl) _) (by omega), HW.out.2.2.2.1.trans (((Moves.refl (fun k => k = w.heap.size) W).setCell ⟨w.heap.size, 7, none⟩ (fun _ => rfl) _).below HW.out.2.2.2.1.size (fun k e => by omega))⟩
  have c0 : V.cell? ⟨w.heap.size, 0, none⟩ = some (Value.bool x.hm) := HV.out.1.c 0
  have c1 : V.cell? ⟨w.heap.size, 1, none⟩ = some (.int .u16 x.mru.toNat) := HV.out.1.c 1
  have c2 : V.cell? ⟨w.heap.size, 2, none⟩ = some (.bool x.ha) := HV.out.1.c 2
  have c3 : V.cell? ⟨w.heap.size, 3, none⟩ = some (.int .u32 x.accm.toNat) := HV.out.1.c 3
  have c4 : V.cell? ⟨w.heap.size, 4, none⟩ = some (.int .u8 x.auth.toNat) := HV.out.1.c 4
  have c5 : V.cell? ⟨w.heap.size, 5, none⟩ = some (.bool x.hg) := HV.out.1.c 5
  have c6 : V.cell? ⟨w.heap.size, 6, none⟩ = some (.int .u32 x.magic.toNat) := HV.out.1.c 6
  have c7 : V.cell? ⟨w.heap.size, 7, none⟩ = some (.bool true) := HV.out.1.c 7
  have c8 : V.cell? ⟨w.heap.size, 8, none⟩ = some (.bool x.acfc) := HV.out.1.c 8
  have z0 : V.cell? ⟨w.heap.size + 1 + 1, 0, none⟩ = some (Value.bool false) := HV.out.2.1.c 0
  have g0 : V.frozen? ⟨w.heap.size + 1 + 1, 0, none⟩ = false := HV.out.2.1.f 0
  have z1 : V.cell? ⟨w.heap.size + 1 + 1, 1, none⟩ = some (.int .u16 0) := HV.out.2.1.c 1
  have g1 : V.frozen? ⟨w.heap.size + 1 + 1, 1, none⟩ = false := HV.out.2.1.f 1
  have z2 : V.cell? ⟨w.heap.size + 1 + 1, 2, none⟩ = some (.bool false) := HV.out.2.1.c 2
  have g2 : V.frozen? ⟨w.heap.size + 1 + 1, 2, none⟩ = false := HV.out.2.1.f 2
  have z3 : V.cell? ⟨w.heap.size + 1 + 1, 3, none⟩ = some (.int .u32 0) := HV.out.2.1.c 3
  have g3 : V.frozen? ⟨w.heap.size + 1 + 1, 3, none⟩ = false := HV.out.2.1.f 3
  have z4 : V.cell? ⟨w.heap.size + 1 + 1, 4, none⟩ = some (.int .u8 0) := HV.out.2.1.c 4
  have g4 : V.frozen? ⟨w.heap.size + 1 + 1, 4, none⟩ = false := HV.out.2.1.f 4
  have z5 : V.cell? ⟨w.heap.size + 1 + 1, 5, none⟩ = some (.bool false) := HV.out.2.1.c 5
  have g5 : V.frozen? ⟨w.heap.size + 1 + 1, 5, none⟩ = false := HV.out.2.1.f 5
  have z6 : V.cell? ⟨w.heap.size + 1 + 1, 6, none⟩ = some (.int .u32 0) := HV.out.2.1.c 6
  have g6 : V.frozen? ⟨w.heap.size + 1 + 1, 6, none⟩ = false := HV.out.2.1.f 6
  have z7 : V.cell? ⟨w.heap.size + 1 + 1, 7, none⟩ = some (.bool false) := HV.out.2.1.c 7
  have g7 : V.frozen? ⟨w.heap.size + 1 + 1, 7, none⟩ = false := HV.out.2.1.f 7
  have z8 : V.cell? ⟨w.heap.size + 1 + 1, 8, none⟩ = some (.bool false) := HV.out.2.1.c 8
  have g8 : V.frozen? ⟨w.heap.size + 1 + 1, 8, none⟩ = false := HV.out.2.1.f 8
  go_enter Tryz.func113, Tryz.ntmps113
  go_wp2
  clear hW
  have HR := setL_blk (y := ({ x with pfc := true } : Lcp)) HV.out.2.1
  have HBe := setL_below HV.out.2.2 HV.out.2.2.size (g := w.heap.size + 1 + 1) (by omega) (lv ({ x with pfc := true } : Lcp))
  (try simp only [Exit.inBlock, Exit.then])
  refine bodyPost_ret (results_cell_row rfl _ _ (w.heap.size + 1 + 1) _ (lv ({ x with pfc := true } : Lcp)).toArray _ _ rfl HR Tryz.underlying37 rfl (by kernel_rfl)) rfl ?_
  exact ⟨by rw [← HY.out], HBe⟩
set_option maxHeartbeats 2000000 in
set_option maxRecDepth 100000 in
theorem rset8 (t : UInt8) (d : ByteArray) (x : Lcp) (w : World) (e : t = 8) (hg : good (t, d) = true) : Calls Tryz.prog 113 #[.agg (lv x).toArray, .agg #[.int .u8 t.toNat, .string d]] w fun e w' => e = .returned (.agg (lv (say x (t, d))).toArray) ∧ Below w.heap.size w w' := by
  show Calls Tryz.prog 113 #[.agg #[Value.bool x.hm, .int .u16 x.mru.toNat, .bool x.ha, .int .u32 x.accm.toNat, .int .u8 x.auth.toNat, .bool x.hg, .int .u32 x.magic.toNat, .bool x.pfc, .bool x.acfc], .agg #[.int .u8 t.toNat, .string d]] w fun e w' => e = .returned (.agg (lv (say x (t, d))).toArray) ∧ Below w.heap.size w w'
  obtain ⟨W, hW, HW⟩ := boxA w x t d
  have q1 : ((t.toNat : Int) == 1) = false := u8_not (n := 1) (by rw [e]; decide)
  have q2 : ((t.toNat : Int) == 2) = false := u8_not (n := 2) (by rw [e]; decide)
  have q5 : ((t.toNat : Int) == 5) = false := u8_not (n := 5) (by rw [e]; decide)
  have q3 : ((t.toNat : Int) == 3) = false := u8_not (n := 3) (by rw [e]; decide)
  have q7 : ((t.toNat : Int) == 7) = false := u8_not (n := 7) (by rw [e]; decide)
  have q8 : ((t.toNat : Int) == 8) = true := u8_is (n := 8) (by rw [e]; rfl)
  have o0 : W.cell? ⟨w.heap.size + 1, 0, none⟩ = some (.int .u8 t.toNat) := HW.out.2.1.c0
  have o1 : W.cell? ⟨w.heap.size + 1, 1, none⟩ = some (.string d) := HW.out.2.1.c1
  have x0 : W.cell? ⟨w.heap.size, 0, none⟩ = some (Value.bool x.hm) := HW.out.1.c 0
  have f0 : W.frozen? ⟨w.heap.size, 0, none⟩ = false := HW.out.1.f 0
  have x1 : W.cell? ⟨w.heap.size, 1, none⟩ = some (.int .u16 x.mru.toNat) := HW.out.1.c 1
  have f1 : W.frozen? ⟨w.heap.size, 1, none⟩ = false := HW.out.1.f 1
  have x2 : W.cell? ⟨w.heap.size, 2, none⟩ = some (.bool x.ha) := HW.out.1.c 2
  have f2 : W.frozen? ⟨w.heap.size, 2, none⟩ = false := HW.out.1.f 2
  have x3 : W.cell? ⟨w.heap.size, 3, none⟩ = some (.int .u32 x.accm.toNat) := HW.out.1.c 3
  have f3 : W.frozen? ⟨w.heap.size, 3, none⟩ = false := HW.out.1.f 3
  have x4 : W.cell? ⟨w.heap.size, 4, none⟩ = some (.int .u8 x.auth.toNat) := HW.out.1.c 4
  have f4 : W.frozen? ⟨w.heap.size, 4, none⟩ = false := HW.out.1.f 4
  have x5 : W.cell? ⟨w.heap.size, 5, none⟩ = some (.bool x.hg) := HW.out.1.c 5
  have f5 : W.frozen? ⟨w.heap.size, 5, none⟩ = false := HW.out.1.f 5
  have x6 : W.cell? ⟨w.heap.size, 6, none⟩ = some (.int .u32 x.magic.toNat) := HW.out.1.c 6
  have f6 : W.frozen? ⟨w.heap.size, 6, none⟩ = false := HW.out.1.f 6
  have x7 : W.cell? ⟨w.heap.size, 7, none⟩ = some (.bool x.pfc) := HW.out.1.c 7
  have f7 : W.frozen? ⟨w.heap.size, 7, none⟩ = false := HW.out.1.f 7
  have x8 : W.cell? ⟨w.heap.size, 8, none⟩ = some (.bool x.acfc) := HW.out.1.c 8
  have f8 : W.frozen? ⟨w.heap.size, 8, none⟩ = false := HW.out.1.f 8
  have HY : Hid (({ x with acfc := true } : Lcp) = say x (t, d)) := by show _ = _; rw [e]; rfl
  clear e hg
  obtain ⟨V, hV, HV⟩ : ∃ V, W.setCell ⟨w.heap.size, 8, none⟩ (.bool true) = V ∧ Hid (LAt V w.heap.size ({ x with acfc := true } : Lcp) ∧ LAt V (w.heap.size + 1 + 1) lz ∧ Below w.heap.size w V) :=
    ⟨_, rfl, Blk.set HW.out.1 8 _, Blk.moves HW.out.2.2.1 ((Moves.refl (fun k => k = w.heap.size) W).setCell ⟨w.heap.size, 8, none⟩ (fun _ => rfl) _) (by omega), HW.out.2.2.2.1.trans (((Moves.refl (fun k => k = w.heap.size) W).setCell ⟨w.heap.size, 8, none⟩ (fun _ => rfl) _).below HW.out.2.2.2.1.size (fun k e => by omega))⟩
  have c0 : V.cell? ⟨w.heap.size, 0, none⟩ = some (Value.bool x.hm) := HV.out.1.c 0
  have c1 : V.cell? ⟨w.heap.size, 1, none⟩ = some (.int .u16 x.mru.toNat) := HV.out.1.c 1
  have c2 : V.cell? ⟨w.heap.size, 2, none⟩ = some (.bool x.ha) := HV.out.1.c 2
  have c3 : V.cell? ⟨w.heap.size, 3, none⟩ = some (.int .u32 x.accm.toNat) := HV.out.1.c 3
  have c4 : V.cell? ⟨w.heap.size, 4, none⟩ = some (.int .u8 x.auth.toNat) := HV.out.1.c 4
  have c5 : V.cell? ⟨w.heap.size, 5, none⟩ = some (.bool x.hg) := HV.out.1.c 5
  have c6 : V.cell? ⟨w.heap.size, 6, none⟩ = some (.int .u32 x.magic.toNat) := HV.out.1.c 6
  have c7 : V.cell? ⟨w.heap.size, 7, none⟩ = some (.bool x.pfc) := HV.out.1.c 7
  have c8 : V.cell? ⟨w.heap.size, 8, none⟩ = some (.bool true) := HV.out.1.c 8
  have z0 : V.cell? ⟨w.heap.size + 1 + 1, 0, none⟩ = some (Value.bool false) := HV.out.2.1.c 0
  have g0 : V.frozen? ⟨w.heap.size + 1 + 1, 0, none⟩ = false := HV.out.2.1.f 0
  have z1 : V.cell? ⟨w.heap.size + 1 + 1, 1, none⟩ = some (.int .u16 0) := HV.out.2.1.c 1
  have g1 : V.frozen? ⟨w.heap.size + 1 + 1, 1, none⟩ = false := HV.out.2.1.f 1
  have z2 : V.cell? ⟨w.heap.size + 1 + 1, 2, none⟩ = some (.bool false) := HV.out.2.1.c 2
  have g2 : V.frozen? ⟨w.heap.size + 1 + 1, 2, none⟩ = false := HV.out.2.1.f 2
  have z3 : V.cell? ⟨w.heap.size + 1 + 1, 3, none⟩ = some (.int .u32 0) := HV.out.2.1.c 3
  have g3 : V.frozen? ⟨w.heap.size + 1 + 1, 3, none⟩ = false := HV.out.2.1.f 3
  have z4 : V.cell? ⟨w.heap.size + 1 + 1, 4, none⟩ = some (.int .u8 0) := HV.out.2.1.c 4
  have g4 : V.frozen? ⟨w.heap.size + 1 + 1, 4, none⟩ = false := HV.out.2.1.f 4
  have z5 : V.cell? ⟨w.heap.size + 1 + 1, 5, none⟩ = some (.bool false) := HV.out.2.1.c 5
  have g5 : V.frozen? ⟨w.heap.size + 1 + 1, 5, none⟩ = false := HV.out.2.1.f 5
  have z6 : V.cell? ⟨w.heap.size + 1 + 1, 6, none⟩ = some (.int .u32 0) := HV.out.2.1.c 6
  have g6 : V.frozen? ⟨w.heap.size + 1 + 1, 6, none⟩ = false := HV.out.2.1.f 6
  have z7 : V.cell? ⟨w.heap.size + 1 + 1, 7, none⟩ = some (.bool false) := HV.out.2.1.c 7
  have g7 : V.frozen? ⟨w.heap.size + 1 + 1, 7, none⟩ = false := HV.out.2.1.f 7
  have z8 : V.cell? ⟨w.heap.size + 1 + 1, 8, none⟩ = some (.bool false) := HV.out.2.1.c 8
  have g8 : V.frozen? ⟨w.heap.size + 1 + 1, 8, none⟩ = false := HV.out.2.1.f 8
  go_enter Tryz.func113, Tryz.ntmps113
  go_wp2
  clear hW
  have HR := setL_blk (y := ({ x with acfc := true } : Lcp)) HV.out.2.1
  have HBe := setL_below HV.out.2.2 HV.out.2.2.size (g := w.heap.size + 1 + 1) (by omega) (lv ({ x with acfc := true } : Lcp))
  (try simp only [Exit.inBlock, Exit.then])
  refine bodyPost_ret (results_cell_row rfl _ _ (w.heap.size + 1 + 1) _ (lv ({ x with acfc := true } : Lcp)).toArray _ _ rfl HR Tryz.underlying37 rfl (by kernel_rfl)) rfl ?_
  exact ⟨by rw [← HY.out], HBe⟩
theorem rset_any (t : UInt8) (d : ByteArray) (x : Lcp) (w : World) (hg : good (t, d) = true) : Calls Tryz.prog 113 #[.agg (lv x).toArray, .agg #[.int .u8 t.toNat, .string d]] w fun e w' => e = .returned (.agg (lv (say x (t, d))).toArray) ∧ Below w.heap.size w w' := by
  rcases known_cases (good_known hg) with e | e | e | e | e | e
  · exact rset1 t d x w e hg
  · exact rset2 t d x w e hg
  · exact rset3 t d x w e hg
  · exact rset5 t d x w e hg
  · exact rset7 t d x w e hg
  · exact rset8 t d x w e hg
end Go.Proofs.YtpohcejgblahiaaGreat.Lco
