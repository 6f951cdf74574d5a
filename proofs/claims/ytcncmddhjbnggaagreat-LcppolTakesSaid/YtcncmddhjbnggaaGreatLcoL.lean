/- Contracts of the document's Good, Known, value, num and set. -/
import Derived.Test.YtcncmddhjbnggaaGreatLcoB
import Derived.Laws.BitsAllLaws
namespace Go.Proofs.YtcncmddhjbnggaaGreat.Lco
open Go.RowKit Go.Proofs.YtcncmddhjbnggaaGreat.Oct Go.Proofs.YtcncmddhjbnggaaGreat.Row Go.Proofs.YtcncmddhjbnggaaGreat.Mem Go.Proofs.YtcncmddhjbnggaaGreat.Opt

theorem kn_not {t : UInt8} (h : known t = false) {k : UInt8} (hk : known k = true) : ¬ t = k := fun e => by rw [e, hk] at h; cases h
set_option maxHeartbeats 1000000 in
theorem rknown_any (t : UInt8) (w : World) : Calls Tryz.prog 114 #[.int .u8 t.toNat] w fun e w' => e = .returned (.bool (known t)) ∧ Below w.heap.size w w' := by
  cases hk : known t
  · have HK := Lib.hid hk
    have q1 : ((t.toNat : Int) == 1) = false := u8_not (n := 1) (u8_isnt (by omega) (fun e => by rw [e] at hk; cases hk))
    have q2 : ((t.toNat : Int) == 2) = false := u8_not (n := 2) (u8_isnt (by omega) (fun e => by rw [e] at hk; cases hk))
    have q5 : ((t.toNat : Int) == 5) = false := u8_not (n := 5) (u8_isnt (by omega) (fun e => by rw [e] at hk; cases hk))
    have q3 : ((t.toNat : Int) == 3) = false := u8_not (n := 3) (u8_isnt (by omega) (fun e => by rw [e] at hk; cases hk))
    have q7 : ((t.toNat : Int) == 7) = false := u8_not (n := 7) (u8_isnt (by omega) (fun e => by rw [e] at hk; cases hk))
    have q8 : ((t.toNat : Int) == 8) = false := u8_not (n := 8) (u8_isnt (by omega) (fun e => by rw [e] at hk; cases hk))
    clear hk
    go_enter Tryz.func114, Tryz.ntmps114
    go_wp2
    go_ret
    exact ⟨rfl, Below.refl _ _⟩
  · rcases known_cases hk with e | e | e | e | e | e
    · clear hk
      have q1 : ((t.toNat : Int) == 1) = true := u8_is (n := 1) (by rw [e]; rfl)
      have q2 : ((t.toNat : Int) == 2) = false := u8_not (n := 2) (by rw [e]; decide)
      have q5 : ((t.toNat : Int) == 5) = false := u8_not (n := 5) (by rw [e]; decide)
      have q3 : ((t.toNat : Int) == 3) = false := u8_not (n := 3) (by rw [e]; decide)
      have q7 : ((t.toNat : Int) == 7) = false := u8_not (n := 7) (by rw [e]; decide)
      have q8 : ((t.toNat : Int) == 8) = false := u8_not (n := 8) (by rw [e]; decide)
      clear e
      go_enter Tryz.func114, Tryz.ntmps114
      go_wp2
      go_ret
      exact ⟨rfl, Below.refl _ _⟩
    · clear hk
      have q1 : ((t.toNat : Int) == 1) = false := u8_not (n := 1) (by rw [e]; decide)
      have q2 : ((t.toNat : Int) == 2) = true := u8_is (n := 2) (by rw [e]; rfl)
      have q5 : ((t.toNat : Int) == 5) = false := u8_not (n := 5) (by rw [e]; decide)
      have q3 : ((t.toNat : Int) == 3) = false := u8_not (n := 3) (by rw [e]; decide)
      have q7 : ((t.toNat : Int) == 7) = false := u8_not (n := 7) (by rw [e]; decide)
      have q8 : ((t.toNat : Int) == 8) = false := u8_not (n := 8) (by rw [e]; decide)
      clear e
      go_enter Tryz.func114, Tryz.ntmps114
      go_wp2
      go_ret
      exact ⟨rfl, Below.refl _ _⟩
    · clear hk
      have q1 : ((t.toNat : Int) == 1) = false := u8_not (n := 1) (by rw [e]; decide)
      have q2 : ((t.toNat : Int) == 2) = false := u8_not (n := 2) (by rw [e]; decide)
      have q5 : ((t.toNat : Int) == 5) = false := u8_not (n := 5) (by rw [e]; decide)
      have q3 : ((t.toNat : Int) == 3) = true := u8_is (n := 3) (by rw [e]; rfl)
      have q7 : ((t.toNat : Int) == 7) = false := u8_not (n := 7) (by rw [e]; decide)
      have q8 : ((t.toNat : Int) == 8) = false := u8_not (n := 8) (by rw [e]; decide)
      clear e
      go_enter Tryz.func114, Tryz.ntmps114
      go_wp2
      go_ret
      exact ⟨rfl, Below.refl _ _⟩
    · clear hk
      have q1 : ((t.toNat : Int) == 1) = false := u8_not (n := 1) (by rw [e]; decide)
      have q2 : ((t.toNat : Int) == 2) = false := u8_not (n := 2) (by rw [e]; decide)
      have q5 : ((t.toNat : Int) == 5) = true := u8_is (n := 5) (by rw [e]; rfl)
      have q3 : ((t.toNat : Int) == 3) = false := u8_not (n := 3) (by rw [e]; decide)
      have q7 : ((t.toNat : Int) == 7) = false := u8_not (n := 7) (by rw [e]; decide)
      have q8 : ((t.toNat : Int) == 8) = false := u8_not (n := 8) (by rw [e]; decide)
      clear e
      go_enter Tryz.func114, Tryz.ntmps114
      go_wp2
      go_ret
      exact ⟨rfl, Below.refl _ _⟩
    · clear hk
      have q1 : ((t.toNat : Int) == 1) = false := u8_not (n := 1) (by rw [e]; decide)
      have q2 : ((t.toNat : Int) == 2) = false := u8_not (n := 2) (by rw [e]; decide)
      have q5 : ((t.toNat : Int) == 5) = false := u8_not (n := 5) (by rw [e]; decide)
      have q3 : ((t.toNat : Int) == 3) = false := u8_not (n := 3) (by rw [e]; decide)
      have q7 : ((t.toNat : Int) == 7) = true := u8_is (n := 7) (by rw [e]; rfl)
      have q8 : ((t.toNat : Int) == 8) = false := u8_not (n := 8) (by rw [e]; decide)
      clear e
      go_enter Tryz.func114, Tryz.ntmps114
      go_wp2
      go_ret
      exact ⟨rfl, Below.refl _ _⟩
    · clear hk
      have q1 : ((t.toNat : Int) == 1) = false := u8_not (n := 1) (by rw [e]; decide)
      have q2 : ((t.toNat : Int) == 2) = false := u8_not (n := 2) (by rw [e]; decide)
      have q5 : ((t.toNat : Int) == 5) = false := u8_not (n := 5) (by rw [e]; decide)
      have q3 : ((t.toNat : Int) == 3) = false := u8_not (n := 3) (by rw [e]; decide)
      have q7 : ((t.toNat : Int) == 7) = false := u8_not (n := 7) (by rw [e]; decide)
      have q8 : ((t.toNat : Int) == 8) = true := u8_is (n := 8) (by rw [e]; rfl)
      clear e
      go_enter Tryz.func114, Tryz.ntmps114
      go_wp2
      go_ret
      exact ⟨rfl, Below.refl _ _⟩
theorem authK_1 {d : ByteArray} (h : d = bOf [192, 35]) : authK d = 1 := by unfold authK; rw [if_pos h]
theorem authK_2 {d : ByteArray} (h1 : ¬ d = bOf [192, 35]) (h : d = bOf [194, 35, 5]) : authK d = 2 := by unfold authK; rw [if_neg h1, if_pos h]
theorem authK_0 {d : ByteArray} (h1 : ¬ d = bOf [192, 35]) (h : ¬ d = bOf [194, 35, 5]) : authK d = 0 := by unfold authK; rw [if_neg h1, if_neg h]
theorem lit_is {d : ByteArray} {l : List UInt8} (h : d = bOf l) : (d.toList == l) = true := by rw [h, toList_bOf]; simp
theorem lit_not {d : ByteArray} {l : List UInt8} (h : ¬ d = bOf l) : (d.toList == l) = false := by
  rw [beq_eq_false_iff_ne]
  exact fun e => h (by rw [← e, bOf_toList])
set_option maxHeartbeats 2000000 in
theorem rgood_w (t : UInt8) (d : ByteArray) (w : World) : Calls Tryz.prog 54 #[.agg #[.int .u8 t.toNat, .string d]] w fun e w' => e = .returned (.bool (good (t, d))) ∧ w' = w.alloc (.cells #[.int .u8 t.toNat, .string d] 51) := by
  obtain ⟨W, hW, HW⟩ : ∃ W, w.alloc (.cells #[.int .u8 t.toNat, .string d] 51) = W ∧ Hid (At W w.heap.size (t, d) ∧ W = w.alloc (.cells #[.int .u8 t.toNat, .string d] 51)) := ⟨_, rfl, at_new w t d, rfl⟩
  have HB := Lib.hid HW.out.2
  have c0 : W.cell? ⟨w.heap.size, 0, none⟩ = some (.int .u8 t.toNat) := HW.out.1.c0
  have c1 : W.cell? ⟨w.heap.size, 1, none⟩ = some (.string d) := HW.out.1.c1
  clear HW
  cases hk : known t
  · have HG : Hid (good (t, d) = false) := by
      show _ = _
      rw [Bool.eq_false_iff]
      intro e
      rw [show known t = true from good_known e] at hk
      cases hk
    have q1 : ((t.toNat : Int) == 1) = false := u8_not (n := 1) (u8_isnt (by omega) (fun e => by rw [e] at hk; cases hk))
    have q2 : ((t.toNat : Int) == 2) = false := u8_not (n := 2) (u8_isnt (by omega) (fun e => by rw [e] at hk; cases hk))
    have q5 : ((t.toNat : Int) == 5) = false := u8_not (n := 5) (u8_isnt (by omega) (fun e => by rw [e] at hk; cases hk))
    have q3 : ((t.toNat : Int) == 3) = false := u8_not (n := 3) (u8_isnt (by omega) (fun e => by rw [e] at hk; cases hk))
    have q7 : ((t.toNat : Int) == 7) = false := u8_not (n := 7) (u8_isnt (by omega) (fun e => by rw [e] at hk; cases hk))
    have q8 : ((t.toNat : Int) == 8) = false := u8_not (n := 8) (u8_isnt (by omega) (fun e => by rw [e] at hk; cases hk))
    clear hk
    go_enter Tryz.func54, Tryz.ntmps54
    go_wp2
    go_ret
    exact ⟨by rw [HG.out] <;> rfl, HB.out⟩
  · rcases known_cases hk with e | e | e | e | e | e
    · clear hk
      have q1 : ((t.toNat : Int) == 1) = true := u8_is (n := 1) (by rw [e]; rfl)
      have q2 : ((t.toNat : Int) == 2) = false := u8_not (n := 2) (by rw [e]; decide)
      have q5 : ((t.toNat : Int) == 5) = false := u8_not (n := 5) (by rw [e]; decide)
      have q3 : ((t.toNat : Int) == 3) = false := u8_not (n := 3) (by rw [e]; decide)
      have q7 : ((t.toNat : Int) == 7) = false := u8_not (n := 7) (by rw [e]; decide)
      have q8 : ((t.toNat : Int) == 8) = false := u8_not (n := 8) (by rw [e]; decide)
      by_cases hs : d.size = 2
      · have HG : Hid (good (t, d) = true) := by show _ = _; rw [e]; exact decide_eq_true hs
        have x1 : ((d.size : Int) == 2) = true := by rw [hs]; rfl
        clear e hs
        go_enter Tryz.func54, Tryz.ntmps54
        go_wp2
        go_ret
        exact ⟨by rw [HG.out] <;> rfl, HB.out⟩
      · have HG : Hid (good (t, d) = false) := by show _ = _; rw [e]; exact decide_eq_false hs
        have x1 : ((d.size : Int) == 2) = false := by rw [beq_eq_false_iff_ne]; omega
        clear e hs
        go_enter Tryz.func54, Tryz.ntmps54
        go_wp2
        go_ret
        exact ⟨by rw [HG.out] <;> rfl, HB.out⟩
    · clear hk
      have q1 : ((t.toNat : Int) == 1) = false := u8_not (n := 1) (by rw [e]; decide)
      have q2 : ((t.toNat : Int) == 2) = true := u8_is (n := 2) (by rw [e]; rfl)
      have q5 : ((t.toNat : Int) == 5) = false := u8_not (n := 5) (by rw [e]; decide)
      have q3 : ((t.toNat : Int) == 3) = false := u8_not (n := 3) (by rw [e]; decide)
      have q7 : ((t.toNat : Int) == 7) = false := u8_not (n := 7) (by rw [e]; decide)
      have q8 : ((t.toNat : Int) == 8) = false := u8_not (n := 8) (by rw [e]; decide)
      by_cases hs : d.size = 4
      · have HG : Hid (good (t, d) = true) := by show _ = _; rw [e]; exact decide_eq_true hs
        have x1 : ((d.size : Int) == 4) = true := by rw [hs]; rfl
        clear e hs
        go_enter Tryz.func54, Tryz.ntmps54
        go_wp2
        go_ret
        exact ⟨by rw [HG.out] <;> rfl, HB.out⟩
      · have HG : Hid (good (t, d) = false) := by show _ = _; rw [e]; exact decide_eq_false hs
        have x1 : ((d.size : Int) == 4) = false := by rw [beq_eq_false_iff_ne]; omega
        clear e hs
        go_enter Tryz.func54, Tryz.ntmps54
        go_wp2
        go_ret
        exact ⟨by rw [HG.out] <;> rfl, HB.out⟩
    · clear hk
      have q1 : ((t.toNat : Int) == 1) = false := u8_not (n := 1) (by rw [e]; decide)
      have q2 : ((t.toNat : Int) == 2) = false := u8_not (n := 2) (by rw [e]; decide)
      have q5 : ((t.toNat : Int) == 5) = false := u8_not (n := 5) (by rw [e]; decide)
      have q3 : ((t.toNat : Int) == 3) = true := u8_is (n := 3) (by rw [e]; rfl)
      have q7 : ((t.toNat : Int) == 7) = false := u8_not (n := 7) (by rw [e]; decide)
      have q8 : ((t.toNat : Int) == 8) = false := u8_not (n := 8) (by rw [e]; decide)
      by_cases h1 : d = bOf [192, 35]
      · have HG : Hid (good (t, d) = true) := by show _ = _; rw [e]; show (authK d != 0) = true; rw [authK_1 h1]; rfl
        have x1 := lit_is h1
        clear e h1
        go_enter Tryz.func54, Tryz.ntmps54
        go_wp2
        go_ret
        exact ⟨by rw [HG.out] <;> rfl, HB.out⟩
      · have x1 := lit_not h1
        by_cases h2 : d = bOf [194, 35, 5]
        · have HG : Hid (good (t, d) = true) := by show _ = _; rw [e]; show (authK d != 0) = true; rw [authK_2 h1 h2]; rfl
          have x2 := lit_is h2
          clear e h1 h2
          go_enter Tryz.func54, Tryz.ntmps54
          go_wp2
          go_ret
          exact ⟨by rw [HG.out] <;> rfl, HB.out⟩
        · have HG : Hid (good (t, d) = false) := by show _ = _; rw [e]; show (authK d != 0) = false; rw [authK_0 h1 h2]; rfl
          have x2 := lit_not h2
          clear e h1 h2
          go_enter Tryz.func54, Tryz.ntmps54
          go_wp2
          go_ret
          exact ⟨by rw [HG.out] <;> rfl, HB.out⟩
    · clear hk
      have q1 : ((t.toNat : Int) == 1) = false := u8_not (n := 1) (by rw [e]; decide)
      have q2 : ((t.toNat : Int) == 2) = false := u8_not (n := 2) (by rw [e]; decide)
      have q5 : ((t.toNat : Int) == 5) = true := u8_is (n := 5) (by rw [e]; rfl)
      have q3 : ((t.toNat : Int) == 3) = false := u8_not (n := 3) (by rw [e]; decide)
      have q7 : ((t.toNat : Int) == 7) = false := u8_not (n := 7) (by rw [e]; decide)
      have q8 : ((t.toNat : Int) == 8) = false := u8_not (n := 8) (by rw [e]; decide)
      by_cases hs : d.size = 4
      · have HG : Hid (good (t, d) = true) := by show _ = _; rw [e]; exact decide_eq_true hs
        have x1 : ((d.size : Int) == 4) = true := by rw [hs]; rfl
        clear e hs
        go_enter Tryz.func54, Tryz.ntmps54
        go_wp2
        go_ret
        exact ⟨by rw [HG.out] <;> rfl, HB.out⟩
      · have HG : Hid (good (t, d) = false) := by show _ = _; rw [e]; exact decide_eq_false hs
        have x1 : ((d.size : Int) == 4) = false := by rw [beq_eq_false_iff_ne]; omega
        clear e hs
        go_enter Tryz.func54, Tryz.ntmps54
        go_wp2
        go_ret
        exact ⟨by rw [HG.out] <;> rfl, HB.out⟩
    · clear hk
      have q1 : ((t.toNat : Int) == 1) = false := u8_not (n := 1) (by rw [e]; decide)
      have q2 : ((t.toNat : Int) == 2) = false := u8_not (n := 2) (by rw [e]; decide)
      have q5 : ((t.toNat : Int) == 5) = false := u8_not (n := 5) (by rw [e]; decide)
      have q3 : ((t.toNat : Int) == 3) = false := u8_not (n := 3) (by rw [e]; decide)
      have q7 : ((t.toNat : Int) == 7) = true := u8_is (n := 7) (by rw [e]; rfl)
      have q8 : ((t.toNat : Int) == 8) = false := u8_not (n := 8) (by rw [e]; decide)
      by_cases hs : d.size = 0
      · have HG : Hid (good (t, d) = true) := by show _ = _; rw [e]; exact decide_eq_true hs
        have x1 : d.toList.isEmpty = true := by have h := size_toList d; rw [hs] at h; rw [List.isEmpty_iff]; exact List.eq_nil_of_length_eq_zero h.symm
        clear e hs
        go_enter Tryz.func54, Tryz.ntmps54
        go_wp2
        go_ret
        exact ⟨by rw [HG.out] <;> rfl, HB.out⟩
      · have HG : Hid (good (t, d) = false) := by show _ = _; rw [e]; exact decide_eq_false hs
        have x1 : d.toList.isEmpty = false := by have h := size_toList d; rw [List.isEmpty_eq_false_iff]; intro h2; rw [h2] at h; exact hs h
        clear e hs
        go_enter Tryz.func54, Tryz.ntmps54
        go_wp2
        go_ret
        exact ⟨by rw [HG.out] <;> rfl, HB.out⟩
    · clear hk
      have q1 : ((t.toNat : Int) == 1) = false := u8_not (n := 1) (by rw [e]; decide)
      have q2 : ((t.toNat : Int) == 2) = false := u8_not (n := 2) (by rw [e]; decide)
      have q5 : ((t.toNat : Int) == 5) = false := u8_not (n := 5) (by rw [e]; decide)
      have q3 : ((t.toNat : Int) == 3) = false := u8_not (n := 3) (by rw [e]; decide)
      have q7 : ((t.toNat : Int) == 7) = false := u8_not (n := 7) (by rw [e]; decide)
      have q8 : ((t.toNat : Int) == 8) = true := u8_is (n := 8) (by rw [e]; rfl)
      by_cases hs : d.size = 0
      · have HG : Hid (good (t, d) = true) := by show _ = _; rw [e]; exact decide_eq_true hs
        have x1 : d.toList.isEmpty = true := by have h := size_toList d; rw [hs] at h; rw [List.isEmpty_iff]; exact List.eq_nil_of_length_eq_zero h.symm
        clear e hs
        go_enter Tryz.func54, Tryz.ntmps54
        go_wp2
        go_ret
        exact ⟨by rw [HG.out] <;> rfl, HB.out⟩
      · have HG : Hid (good (t, d) = false) := by show _ = _; rw [e]; exact decide_eq_false hs
        have x1 : d.toList.isEmpty = false := by have h := size_toList d; rw [List.isEmpty_eq_false_iff]; intro h2; rw [h2] at h; exact hs h
        clear e hs
        go_enter Tryz.func54, Tryz.ntmps54
        go_wp2
        go_ret
        exact ⟨by rw [HG.out] <;> rfl, HB.out⟩
theorem rgood_any (t : UInt8) (d : ByteArray) (w : World) : Calls Tryz.prog 54 #[.agg #[.int .u8 t.toNat, .string d]] w fun e w' => e = .returned (.bool (good (t, d))) ∧ Below w.heap.size w w' :=
  (rgood_w t d w).mono fun _ _ ⟨he, hw⟩ => ⟨he, by rw [hw]; exact (Below.refl _ _).alloc (Nat.le_refl _) _⟩
theorem or64v (q : Nat) (b : UInt8) (h : (q : Int) ≤ 16777215) : bits .or .u64 ((q : Int) * 256) (IntKind.u64.wrap (b.toNat : Int)) = ((q * 256 + b.toNat : Nat) : Int) := by
  have hb := b.toNat_lt
  have e2 : IntKind.u64.wrap (b.toNat : Int) = (b.toNat : Int) := by simp only [IntKind.wrap_u64]; omega
  rw [e2]
  rw [show ((q : Int) * 256) = ((q * 256 : Nat) : Int) by omega, u64_or_nat _ _ (by omega) (by omega), nat_join 8 _ _ (by omega) (by omega)]
set_option maxHeartbeats 400000 in
theorem rvalue_any (s : ByteArray) (w : World) (hs : s.size ≤ 4) :
    Calls Tryz.prog 92 #[.string s] w fun e w' => e = .returned (.int .u64 (val s.toList)) ∧ w = w' := by
  go_enter Tryz.func92, Tryz.ntmps92
  go_wp2
  go_loop [3, 4] (fun v i => ∃ k : Nat, k ≤ s.size ∧ i = .int .i64 k ∧ v = .int .u64 (val (s.toList.take k))) (fun _ i => s.size - (intOf i).toNat)
  case atStart => exact ⟨0, Nat.zero_le _, rfl, rfl⟩
  case round =>
    obtain ⟨k, hk, rfl, rfl⟩ := hrel
    by_cases hlt : k < s.size
    · have hb := val_take_le s.toList k (by omega)
      have hb1 : (val (s.toList.take k) : Int) ≤ 16777215 := by omega
      have hb2 : (0 : Int) ≤ (val (s.toList.take k) : Int) := by omega
      have HS := Lib.hid (val_take_succ s k hlt)
      clear hb
      generalize val (s.toList.take k) = q at *
      go_wp2
      go_round
      case rel => exact ⟨k + 1, by omega, by go_num, by rw [HS.out, ← or64v q _ hb1]⟩
      case measure => simp [intOf]; omega
    · go_wp2
      go_ret
      have e : s.toList.take k = s.toList := List.take_of_length_le (by rw [← size_toList]; omega)
      rw [e]
      exact ⟨rfl, rfl⟩
end Go.Proofs.YtcncmddhjbnggaaGreat.Lco
