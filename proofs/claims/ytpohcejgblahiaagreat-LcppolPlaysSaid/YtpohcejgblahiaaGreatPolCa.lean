/- Contracts of slices.Index at options, and of isPart. -/
import Derived.Test.YtpohcejgblahiaaGreatGOpts
import Derived.Test.YtpohcejgblahiaaGreatPolG
import Derived.Test.YtpohcejgblahiaaGreatGLcoEq
import Derived.Test.YtpohcejgblahiaaGreatOptsStep
namespace Go.Proofs.YtpohcejgblahiaaGreat.Pol
open Go.RowKit Go.Proofs.YtpohcejgblahiaaGreat.Oct Go.Proofs.YtpohcejgblahiaaGreat.Row Go.Proofs.YtpohcejgblahiaaGreat.Mem Go.Proofs.YtpohcejgblahiaaGreat.Opt Go.Proofs.YtpohcejgblahiaaGreat.Lco

theorem part_none {o : Opt} (l : List Opt) : ∀ {r : List Opt}, o ∉ r → part (o :: l) r = false
  | [], _ => rfl
  | x :: r, h => by
    unfold part
    rw [if_neg (fun e => h (by rw [e]; simp))]
    exact part_none l fun hm => h (by simp [hm])
theorem part_found {o : Opt} (l post : List Opt) : ∀ {pre : List Opt}, o ∉ pre → part (o :: l) (pre ++ o :: post) = part l post
  | [], _ => by
    rw [List.nil_append]
    conv => lhs; unfold part
    rw [if_pos rfl]
  | x :: pre, h => by
    rw [List.cons_append]
    conv => lhs; unfold part
    rw [if_neg (fun e => h (by rw [e]; simp))]
    exact part_found l post fun hm => h (by simp [hm])
/-- Where o stands first, or -1. -/
def IxQ (o : Opt) (l : List Opt) (w : World) (e : Ending) (w' : World) : Prop := ((∃ k : Nat, k < l.length ∧ l[k]? = some o ∧ o ∉ l.take k ∧ e = .returned (.int .i64 (k : Nat))) ∨ (o ∉ l ∧ e = .returned (.int .i64 (-1)))) ∧ Below w.heap.size w w'
set_option maxHeartbeats 2000000 in
set_option maxRecDepth 100000 in
theorem ix_any (o : Opt) (l : List Opt) (B : Nat) (A : Option Addr) (n c : Nat) (w : World) (hl : Opts w B A n l) (hn : n ≤ maxLen) (hBw : B ≤ w.heap.size) :
    Calls Tryz.prog 82 #[.slice A n c, .agg #[.int .u8 o.1.toNat, .string o.2]] w (IxQ o l w) := by
  have Hn := Lib.hid hl.1
  obtain ⟨W, hW, HW⟩ := boxO w o
  have Hl := Lib.hid ((hl.below (HW.out.2.1.mono hBw)).more (Nat.le_trans hBw HW.out.2.1.size)); clear hl
  have HB := Lib.hid HW.out.2.1
  have HO := Lib.hid HW.out.1
  unfold maxLen at hn
  clear HW
  go_enter Tryz.func82, Tryz.ntmps82
  go_wp2
  go_loopw [8] (fun i wr => ∃ k : Nat, k ≤ n ∧ i = .int .i64 k ∧ Hid (o ∉ l.take k) ∧ Hid (Below W.heap.size W wr)) (fun i _ => n - (intOf i).toNat)
  case atStart => exact ⟨0, Nat.zero_le _, rfl, by rw [List.take_zero]; exact List.not_mem_nil, Below.refl _ _⟩
  case round =>
    obtain ⟨k, hk, rfl, HT, HR⟩ := hrel
    by_cases hlt : k < n
    · obtain ⟨ad, x, rfl, hB, hx, hS1, hc0, hc1⟩ := (Hl.out.below HR.out).at_ hlt
      have HO1 := Lib.hid (HO.out.callee HR.out)
      have o0 := HO1.out.c0
      have o1 := HO1.out.c1
      have Hx := Lib.hid hx
      have hkl : k < l.length := (List.getElem?_eq_some_iff.1 hx).1
      clear hx
      by_cases he : o = x
      · have hEq := fun w => opt_eq (decide_eq_true he) w
        have hEl := fun w => opt_eql (decide_eq_true he) w
        have HX2 : Hid (l[k]? = some o) := by show _ = _; rw [Hx.out, he]
        have HKL := Lib.hid hkl
        clear he hkl
        go_wp2_with fail
        go_quiet (fail)
        go_wp2
        go_ret
        exact ⟨.inl ⟨k, HKL.out, HX2.out, HT.out, rfl⟩, HB.out.trans ((HR.out.drewN' _).mono HB.out.size)⟩
      · have hEq := fun w => opt_eq (decide_eq_false he) w
        have hEl := fun w => opt_eql (decide_eq_false he) w
        have HT2 : Hid (o ∉ l.take (k + 1)) := by
          show _ ∉ _
          obtain ⟨h1, h2⟩ := List.getElem?_eq_some_iff.1 Hx.out
          rw [List.take_succ_eq_append_getElem h1, h2, List.mem_append, not_or]
          exact ⟨HT.out, by rw [List.mem_singleton]; exact he⟩
        clear he hkl
        go_wp2_with fail
        go_quiet (fail)
        go_wp2
        go_roundw
        case rel => exact ⟨k + 1, by omega, by go_num, HT2, HR.out.drewN' _⟩
        case measure => simp [intOf]; omega
    · obtain rfl : k = n := by omega
      have HF : Hid (o ∉ l) := by
        have h := HT.out
        rw [List.take_of_length_le (by rw [Hn.out]; exact Nat.le_refl _)] at h
        exact h
      go_wp2
      go_ret
      exact ⟨.inr ⟨HF.out, rfl⟩, HB.out.trans (HR.out.mono HB.out.size)⟩
set_option maxHeartbeats 4000000 in
set_option maxRecDepth 100000 in
theorem isPart_any (l r : List Opt) (A A2 : Option Addr) (n n2 c c2 : Nat) (w : World) (hl : Opts w w.heap.size A n l) (hr : Opts w w.heap.size A2 n2 r) (hn : n ≤ maxLen) (hn2 : n2 ≤ 1000) (hc2 : n2 ≤ c2) (hA2 : A2 = none → c2 = 0) :
    Calls Tryz.prog 40 #[.slice A n c, .slice A2 n2 c2] w fun e w' => e = .returned (.bool (part l r)) ∧ Below w.heap.size w w' := by
  have Hn := Lib.hid hl.1
  have HL := Lib.hid hl
  have H0 : Hid (Opts w w.heap.size A2 n2 r ∧ n2 ≤ c2 ∧ (A2 = none → c2 = 0)) := ⟨hr, hc2, hA2⟩
  unfold maxLen at hn
  clear hl hr hc2 hA2
  go_enter Tryz.func40, Tryz.ntmps40
  go_wp2
  go_loopw [1, 10] (fun v i wr => ∃ (k n3 c3 : Nat) (A3 : Option Addr) (r' : List Opt), k ≤ n ∧ i = .int .i64 k ∧ v = .slice A3 n3 c3 ∧ n3 ≤ 1000 ∧ Hid (Opts wr w.heap.size A3 n3 r' ∧ n3 ≤ c3 ∧ (A3 = none → c3 = 0)) ∧ Hid (part (l.drop k) r' = part l r) ∧ Hid (Below w.heap.size w wr)) (fun _ i _ => n - (intOf i).toNat)
  case atStart => exact ⟨0, n2, c2, A2, r, Nat.zero_le _, rfl, rfl, hn2, H0.out, rfl, Below.refl _ _⟩
  case round =>
    obtain ⟨k, n3, c3, A3, r', hk, rfl, rfl, hn3, HO, HT, HR⟩ := hrel
    by_cases hlt : k < n
    · obtain ⟨ad, o, rfl, hB, ho, hS1, hc0, hc1⟩ := (HL.out.below HR.out).at_ hlt
      have hd : l.drop k = o :: l.drop (k + 1) := by obtain ⟨h1, rfl⟩ := List.getElem?_eq_some_iff.1 ho; exact List.drop_eq_getElem_cons h1
      have HD : Hid (part (o :: l.drop (k + 1)) r' = part l r) := by show _ = _; rw [← hd]; exact HT.out
      clear ho hd HT
      have HB1 : Hid (Below w.heap.size w (wr.alloc (.cells #[.int .u8 o.1.toNat, .string o.2] 51))) := HR.out.alloc HR.out.size _
      have HX := Lib.hid (ix_any o r' w.heap.size A3 n3 c3 (wr.alloc (.cells #[.int .u8 o.1.toNat, .string o.2] 51)) (HO.out.1.below ((Below.refl w.heap.size wr).alloc HR.out.size _)) (by unfold maxLen; omega) HB1.out.size)
      go_wp2_with fail
      refine HX.out.mono ?_
      rintro e w1 ⟨⟨j, hj, hjo, hjn, rfl⟩ | ⟨hno, rfl⟩, hb1⟩
      · have HB2 := Lib.hid (HB1.out.trans (hb1.mono HB1.out.size))
        have hjn3 : j < n3 := by rw [← HO.out.1.1]; exact hj
        have HD2 : Hid (part (l.drop (k + 1)) (r'.drop (j + 1)) = part l r) := by
          show _ = _
          rw [← HD.out]
          have e : r' = r'.take j ++ o :: r'.drop (j + 1) := by
            obtain ⟨h1, h2⟩ := List.getElem?_eq_some_iff.1 hjo
            conv => lhs; rw [← List.take_append_drop j r', List.drop_eq_getElem_cons h1, h2]
          conv => rhs; rw [e]
          exact (part_found _ _ hjn).symm
        have HO1 : Hid (Opts w1 w.heap.size A3 n3 r') := HO.out.1.below (((Below.refl w.heap.size wr).alloc HR.out.size _).trans (hb1.mono HB1.out.size))
        have h3 := opts_rest HO1.out HO.out.2.2 (show j + 1 ≤ n3 by omega) HO.out.2.1
        obtain ⟨A4, hA4⟩ : ∃ A4, restA A3 c3 (j + 1) = A4 := ⟨_, rfl⟩
        have hsl : ∀ W, (Instr.slice 30 (.slice A3 n3 c3) (some (.int .i64 ((j : Int) + 1))) none none).run Tryz.prog W = .ok (.slice A4 (n3 - (j + 1)) (c3 - (j + 1))) W := fun W => by
          have := run_rest (P := Tryz.prog) 30 Tryz.underlying30 (fun W => by kernel_rfl) A3 n3 c3 (j + 1) (by omega) HO.out.2.1 W
          rw [hA4] at this
          exact this
        rw [hA4] at h3
        have HO2 : Hid (Opts w1 w.heap.size A4 (n3 - (j + 1)) (r'.drop (j + 1)) ∧ n3 - (j + 1) ≤ c3 - (j + 1) ∧ (A4 = none → c3 - (j + 1) = 0)) := ⟨h3.1, by have := HO.out.2.1; omega, h3.2⟩
        have hj1 : (j : Int) ≤ 1000 := by omega
        have hj0 : (0 : Int) ≤ (j : Int) := Int.natCast_nonneg _
        have hn4 : n3 - (j + 1) ≤ 1000 := by omega
        obtain ⟨n4, hn4e⟩ : ∃ n4, n3 - (j + 1) = n4 := ⟨_, rfl⟩
        obtain ⟨c4, hc4e⟩ : ∃ c4, c3 - (j + 1) = c4 := ⟨_, rfl⟩
        rw [hn4e, hc4e] at hsl HO2
        rw [hn4e] at hn4
        clear hj hjo hjn hb1 h3 hA4 hjn3 hn4e hc4e HO HO1 HX hc0 hc1
        go_wp2
        go_roundw
        case rel => exact ⟨k + 1, n4, c4, A4, r'.drop (j + 1), by omega, by go_num, rfl, hn4, HO2.out, HD2.out, HB2.out⟩
        case measure => simp [intOf]; omega
      · have HB2 := Lib.hid (HB1.out.trans (hb1.mono HB1.out.size))
        have HE : Hid (part l r = false) := by show _ = _; rw [← HD.out]; exact part_none _ hno
        clear hno hb1
        go_wp2
        go_ret
        exact ⟨by rw [HE.out] <;> rfl, HB2.out⟩
    · obtain rfl : k = n := by omega
      have HE : Hid (part l r = true) := by
        show _ = _
        rw [← HT.out, List.drop_of_length_le (by rw [Hn.out]; exact Nat.le_refl _)]
        cases r' <;> rfl
      go_wp2
      go_ret
      exact ⟨by rw [HE.out] <;> rfl, HR.out⟩
end Go.Proofs.YtpohcejgblahiaaGreat.Pol
