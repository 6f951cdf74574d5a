/- PROVED: 'halyardlaw17.EchoPair' returns true for any two magic numbers, any Every, any number of rounds, and leaves them as they were. No condition. -/
import Derived.Test.YtimndcfhilcgfaaEchJ
import Derived.Test.YtimndcfhilcgfaaLaw
import Derived.Test.YtimndcfhilcgfaaRows
namespace Go.Proofs.Ytimndcfhilcgfaa.EchoPair
open Go.ChangeShapes Go.WideShapes Go.ChangeAt Go.RowKit Go.Proofs.Ytimndcfhilcgfaa.Oct Go.Proofs.Ytimndcfhilcgfaa.Row Go.Proofs.Ytimndcfhilcgfaa.Mem Go.Proofs.Ytimndcfhilcgfaa.Law Go.Proofs.Ytimndcfhilcgfaa.Ech Go.Proofs.Ytimndcfhilcgfaa.Pkt

def sa (K m : Nat) (T : Int) (i mi : Nat) : Ec := ⟨K, 3, m, T, T, i, mi, false⟩
theorem inv_sa {K m i mi : Nat} {T : Int} (h1 : K ≤ 256) (hm : m < 4294967296) (h0 : 0 ≤ T) (hT : T ≤ 5120) (hmi : mi ≤ 3) (hn : 0 < mi → 0 < i) : Inv (sa K m T i mi) :=
  ⟨by show K ≤ 100000; omega, by show 1 ≤ 3; decide, by show 3 ≤ 20; decide, hm, h0, Int.le_refl _, by show T ≤ 1152921504606846976; omega, hmi, hn⟩
theorem sa_tick {K m i mi : Nat} {T : Int} (h0 : 1 ≤ K) (h1 : K ≤ 256) (hT : T ≤ 5120) (hmi : mi ≠ 3) :
    tE (sa K m T i mi) (T + K) = 0 ∧ tk (sa K m T i mi) (T + K) = sa K m (T + K) (i + 1) (mi + 1) ∧ tL (sa K m T i mi) (T + K) = [⟨9, UInt8.ofNat ((i + 1) % 256), own (sa K m T i mi)⟩] :=
  tk_due (x := sa K m T i mi) (by show T ≤ T + K; omega) (by show T + (K : Int) ≤ 1152921504606846976; omega) (due_yes (by show K ≠ 0; omega) rfl (by show T + (K : Int) ≤ T + K; omega)) hmi
theorem sa_dead {K m i : Nat} {T : Int} (h0 : 1 ≤ K) (h1 : K ≤ 256) (hT : T ≤ 5120) :
    tE (sa K m T i 3) (T + K) = 0 ∧ tk (sa K m T i 3) (T + K) = { sa K m T i 3 with now := T + K, de := true } ∧ tL (sa K m T i 3) (T + K) = [] :=
  tk_dead (x := sa K m T i 3) (by show T ≤ T + K; omega) (by show T + (K : Int) ≤ 1152921504606846976; omega) (due_yes (by show K ≠ 0; omega) rfl (by show T + (K : Int) ≤ T + K; omega)) rfl
theorem own_sa (K m i mi : Nat) (T : Int) : own (sa K m T i mi) = bOf (numS m 4) := rfl
theorem own_size {K m i mi : Nat} {T : Int} : (own (sa K m T i mi)).size = 4 := size_own _
set_option maxHeartbeats 8000000 in
set_option maxRecDepth 100000 in
theorem walk_else (m n c d : Nat) (w : World) (hm : m < 4294967296) (hn : n < 4294967296) (hc : c ≤ 255) (hd : d ≤ 255) (b1 b2 : Bool) (h1 : ((m : Int) == (n : Int)) = b1) (h2 : ((m : Int) != 0) = b2) (h3 : (b1 && b2) = false) :
    Calls Try.prog 5 #[.int .u32 m, .int .u32 n, .int .u8 c, .int .u8 d] w fun e w' => e = .returned (.bool true) ∧ Below w.heap.size w w' := by
  obtain ⟨R, hR, hr⟩ : ∃ R : Nat, R < 20 ∧ (d : Int).tmod 20 = (R : Int) := ⟨d % 20, Nat.mod_lt _ (by decide), rfl⟩
  obtain ⟨K, hK⟩ : ∃ K : Nat, c + 1 = K := ⟨_, rfl⟩
  have hK0 : 1 ≤ K := by omega
  have hK1 : K ≤ 256 := by omega
  have hk : (1 : Int) + (c : Int) = (K : Int) := by omega
  have hc0 : (0 : Int) ≤ (c : Int) := Int.natCast_nonneg c
  have hc1 : (c : Int) ≤ 255 := by omega
  have hd0 : (0 : Int) ≤ (d : Int) := Int.natCast_nonneg d
  have hd1 : (d : Int) ≤ 255 := by omega
  have HN1 : Hid (∀ wr, Below w.heap.size w wr → Calls Try.prog 14 #[.agg #[.int .i64 K, .int .i64 3], .int .u32 m, .int .i64 0] wr fun o w' => ∃ g, o = .returned (.tuple #[.pointer (some ⟨g, 0, none⟩), .int .i64 0]) ∧ wr.heap.size ≤ g ∧ Al w w' g (nw K 3 m 0) ∧ Below wr.heap.size wr w') := fun wr hb => new_al K 3 m 0 w wr hb (by simp [may]; exact ⟨by omega, by decide⟩)
  have HN2 : Hid (∀ wr, Below w.heap.size w wr → Calls Try.prog 14 #[.agg #[.int .i64 K, .int .i64 3], .int .u32 n, .int .i64 0] wr fun o w' => ∃ g, o = .returned (.tuple #[.pointer (some ⟨g, 0, none⟩), .int .i64 0]) ∧ wr.heap.size ≤ g ∧ Al w w' g (nw K 3 n 0) ∧ Below wr.heap.size wr w') := fun wr hb => new_al K 3 n 0 w wr hb (by simp [may]; exact ⟨by omega, by decide⟩)
  have HM := Lib.hid hm
  have HN := Lib.hid hn
  have HLa : Hid (∀ (T T' : Int) (i i' k k' : Nat), loopB (sa K m T i k) (own (sa K n T' i' k')) = false ∧ loopB (sa K n T i k) (own (sa K m T' i' k')) = false) := fun T T' i i' k k' => by
    have e1 : (!decide (m = 0) && decide (n = m)) = false := by
      rw [Bool.eq_false_iff]
      intro e
      simp only [Bool.and_eq_true, Bool.not_eq_true', decide_eq_false_iff_not, decide_eq_true_eq] at e
      rw [← h1, ← h2] at h3
      rw [show ((m : Int) == (n : Int)) = true from by rw [e.2]; simp, show ((m : Int) != 0) = true from by rw [bne_iff_ne]; omega] at h3
      cases h3
    have e2 : (!decide (n = 0) && decide (m = n)) = false := by
      rw [Bool.eq_false_iff]
      intro e
      simp only [Bool.and_eq_true, Bool.not_eq_true', decide_eq_false_iff_not, decide_eq_true_eq] at e
      rw [← h1, ← h2] at h3
      rw [show ((m : Int) == (n : Int)) = true from by rw [e.2]; simp, show ((m : Int) != 0) = true from by rw [bne_iff_ne]; omega] at h3
      cases h3
    exact ⟨(loop_own' (x := sa K m T i k) (y := sa K n T' i' k') hm hn).trans e1, (loop_own' (x := sa K n T i k) (y := sa K m T' i' k') hn hm).trans e2⟩
  clear hm hn hc hd hK
  go_enter Try.func5, Try.ntmps5
  go_wp2_with fail
  refine (HN1.out _ (Below.refl _ w)).mono ?_
  rintro o w1 ⟨ga, rfl, hg, h, hb⟩
  have H1 := Lib.hid h
  clear hg h hb
  go_wp2_with fail
  refine (HN2.out _ H1.out.2.1).mono ?_
  rintro o w2 ⟨gb, rfl, hg, h, hb⟩
  have HL : Hid (Al w w2 ga (sa K m 0 0 0) ∧ Al w w2 gb (nw K 3 n 0) ∧ ga ≠ gb) := ⟨H1.out.callee hb, h, fun e => by have := H1.out.1.lt; omega⟩
  clear hg h hb H1 HN1 HN2
  go_wp2_with fail
  cases b1 <;> cases b2 <;> first | cases h3 | skip
  all_goals
    go_loopw [14, 15] (fun u v wr => ∃ (i : Nat) (T : Int), i ≤ R ∧ 0 ≤ T ∧ T ≤ 256 * (i : Int) ∧ u = .int .i64 T ∧ v = .int .i64 i ∧ Hid (Al w wr ga (sa K m T i 0) ∧ Al w wr gb (nw K 3 n 0) ∧ ga ≠ gb)) (fun _ v _ => R - (intOf v).toNat)
    case atStart => exact ⟨0, 0, Nat.zero_le _, Int.le_refl _, by decide, rfl, rfl, HL⟩
    case round =>
      obtain ⟨i, T, hi, hT0, hT1, rfl, rfl, HF⟩ := hrel
      by_cases hlt : i < R
      · have hi2 : (i : Int) < (R : Int) := by omega
        have hi3 : (i : Int) ≤ 19 := by omega
        have hi0 : (0 : Int) ≤ (i : Int) := Int.natCast_nonneg i
        have hT2 : T ≤ 5120 := by omega
        have hT3 : 0 ≤ T + (K : Int) := by omega
        have hT4 : T + (K : Int) ≤ 10000 := by omega
        have HT := Lib.hid (sa_tick (m := m) (i := i) (mi := 0) hK0 hK1 hT2 (by decide))
        have HI := Lib.hid (inv_sa (i := i) (mi := 0) hK1 HM.out hT0 hT2 (by decide) (fun e => absurd e (Nat.lt_irrefl 0)))
        have HB := Lib.hid (gt_request (x := nw K 3 n 0) (UInt8.ofNat ((i + 1) % 256)) (own (sa K m T i 0)) (by rw [own_size]; exact Nat.le_refl 4) ((HLa.out 0 T 0 i 0 0).2))
        have HA := Lib.hid (gt_reply (x := sa K m (T + K) (i + 1) 1) (UInt8.ofNat ((i + 1) % 256)) (own (sa K n 0 0 0)) (by rw [own_size]; exact Nat.le_refl 4) ((HLa.out (T + K) 0 (i + 1) 0 1 0).1) (late_no (x := sa K m (T + K) (i + 1) 1) (Nat.succ_ne_zero i)))
        rw [show own (nw K 3 n 0) ++ bOf ((own (sa K m T i 0)).toList.drop 4) = own (sa K n 0 0 0) from by rw [own_list, List.drop_of_length_le (by rw [numS_length]; exact Nat.le_refl 4), own_nil]; rfl] at HB
        have HZ1 : Hid ((own (sa K m T i 0)).size ≤ 140737488351232) := by show _ ≤ _; rw [own_size]; decide
        have HZ2 : Hid ((own (sa K n 0 0 0)).size ≤ 140737488351232) := by show _ ≤ _; rw [own_size]; decide
        have HRl : Hid ({ sa K m (T + K) (i + 1) 1 with mi := 0 } = sa K m (T + K) (i + 1) 0) := rfl
        generalize own (sa K m T i 0) = Y at *
        generalize own (sa K n 0 0 0) = Z at *
        generalize UInt8.ofNat ((i + 1) % 256) = j at *
        go_wp2_with fail
        refine (tick_at HF.out.1 HI.out HT.out).mono ?_
        rintro o w3 ⟨A3, k3, rfl, hp, hr, h, hm⟩
        have H3 : Hid (Al w w3 ga (sa K m (T + K) (i + 1) 1) ∧ Al w w3 gb (nw K 3 n 0) ∧ ga ≠ gb) := ⟨h, HF.out.2.1.other HF.out.1.2.2 (fun e => HF.out.2.2 e.symm) hm, HF.out.2.2⟩
        obtain ⟨ad, pa, hAa, hpa, d0a, d1a, d2a⟩ := (hp).at_ (k := 0) (Nat.succ_pos 0)
        subst hAa
        cases hpa
        rw [Nat.zero_mul, show ad.add 0 = ad from by unfold Addr.add; simp] at d0a d1a d2a
        clear hp hr h hm HT HI HF
        go_wp2_with fail
        refine (dead_at (b := false) H3.out.1 rfl).mono ?_
        rintro o _ ⟨rfl, rfl⟩
        go_wp2_with fail
        refine (dead_at (b := false) H3.out.1 rfl).mono ?_
        rintro o _ ⟨rfl, rfl⟩
        go_wp2_with fail
        refine (packet_at (p := ⟨9, j, Y⟩) H3.out.2.1 HN.out HZ1.out HB.out).mono ?_
        rintro o w4 ⟨A4, k4, rfl, hp, hr, h, hm⟩
        have H4 : Hid (Al w w4 ga (sa K m (T + K) (i + 1) 1) ∧ Al w w4 gb (nw K 3 n 0) ∧ ga ≠ gb) := ⟨H3.out.1.other H3.out.2.1.2.2 H3.out.2.2 hm, h, H3.out.2.2⟩
        obtain ⟨ae, pb, hAb, hpb, d0b, d1b, d2b⟩ := (hp).at_ (k := 0) (Nat.succ_pos 0)
        subst hAb
        cases hpb
        rw [Nat.zero_mul, show ae.add 0 = ae from by unfold Addr.add; simp] at d0b d1b d2b
        clear hp hr h hm HB H3 d0a d1a d2a
        go_wp2_with fail
        refine (packet_at (p := ⟨10, j, Z⟩) H4.out.1 HM.out HZ2.out HA.out).mono ?_
        rintro o w5 ⟨A5, k5, rfl, hp, hr, h, hm⟩
        have H5 : Hid (Al w w5 ga (sa K m (T + K) (i + 1) 0) ∧ Al w w5 gb (nw K 3 n 0) ∧ ga ≠ gb) := ⟨h, H4.out.2.1.other H4.out.1.2.2 (fun e => H4.out.2.2 e.symm) hm, H4.out.2.2⟩
        clear hp hr h hm HA H4 d0b d1b d2b
        go_wp2_with fail
        refine (missed_at (m := 0) H5.out.1 rfl).mono ?_
        rintro o _ ⟨rfl, rfl⟩
        go_wp2
        go_roundw
        case rel => exact ⟨i + 1, T + K, by omega, by omega, by omega, rfl, by go_num, H5⟩
        case measure => simp [intOf]; omega
      · obtain rfl : i = R := by omega
        go_wp2_with fail
        refine (alive_any _).mono ?_
        rintro o w9 ⟨rfl, hb⟩
        have HE := Lib.hid (HF.out.1.2.1.trans (hb.mono HF.out.1.2.1.size))
        clear hb
        go_wp2
        go_ret
        exact ⟨rfl, HE.out⟩
set_option maxHeartbeats 8000000 in
set_option maxRecDepth 100000 in
theorem walk_same (m c d : Nat) (w : World) (hm : m < 4294967296) (hc : c ≤ 255) (hd : d ≤ 255) (h0 : m ≠ 0) :
    Calls Try.prog 5 #[.int .u32 m, .int .u32 m, .int .u8 c, .int .u8 d] w fun e w' => e = .returned (.bool true) ∧ Below w.heap.size w w' := by
  obtain ⟨R, hR, hr⟩ : ∃ R : Nat, R < 20 ∧ (d : Int).tmod 20 = (R : Int) := ⟨d % 20, Nat.mod_lt _ (by decide), rfl⟩
  obtain ⟨K, hK⟩ : ∃ K : Nat, c + 1 = K := ⟨_, rfl⟩
  have hK0 : 1 ≤ K := by omega
  have hK1 : K ≤ 256 := by omega
  have hk : (1 : Int) + (c : Int) = (K : Int) := by omega
  have hc0 : (0 : Int) ≤ (c : Int) := Int.natCast_nonneg c
  have hc1 : (c : Int) ≤ 255 := by omega
  have hd0 : (0 : Int) ≤ (d : Int) := Int.natCast_nonneg d
  have hd1 : (d : Int) ≤ 255 := by omega
  have HN1 : Hid (∀ wr, Below w.heap.size w wr → Calls Try.prog 14 #[.agg #[.int .i64 K, .int .i64 3], .int .u32 m, .int .i64 0] wr fun o w' => ∃ g, o = .returned (.tuple #[.pointer (some ⟨g, 0, none⟩), .int .i64 0]) ∧ wr.heap.size ≤ g ∧ Al w w' g (nw K 3 m 0) ∧ Below wr.heap.size wr w') := fun wr hb => new_al K 3 m 0 w wr hb (by simp [may]; exact ⟨by omega, by decide⟩)
  have HN2 : Hid (∀ wr, Below w.heap.size w wr → Calls Try.prog 14 #[.agg #[.int .i64 K, .int .i64 3], .int .u32 m, .int .i64 0] wr fun o w' => ∃ g, o = .returned (.tuple #[.pointer (some ⟨g, 0, none⟩), .int .i64 0]) ∧ wr.heap.size ≤ g ∧ Al w w' g (nw K 3 m 0) ∧ Below wr.heap.size wr w') := fun wr hb => new_al K 3 m 0 w wr hb (by simp [may]; exact ⟨by omega, by decide⟩)
  have HM := Lib.hid hm
  have h2 : ((m : Int) != 0) = true := by rw [bne_iff_ne]; omega
  have HLa : Hid (∀ (T T' : Int) (i i' k k' : Nat), loopB (sa K m T i k) (own (sa K m T' i' k')) = true) := fun T T' i i' k k' => by
    rw [loop_own' (x := sa K m T i k) (y := sa K m T' i' k') hm hm]
    show (!decide (m = 0) && decide (m = m)) = true
    rw [decide_eq_false h0]
    simp
  clear hm hc hd hK h0
  go_enter Try.func5, Try.ntmps5
  go_wp2_with fail
  refine (HN1.out _ (Below.refl _ w)).mono ?_
  rintro o w1 ⟨ga, rfl, hg, h, hb⟩
  have H1 := Lib.hid h
  clear hg h hb
  go_wp2_with fail
  refine (HN2.out _ H1.out.2.1).mono ?_
  rintro o w2 ⟨gb, rfl, hg, h, hb⟩
  have HL : Hid (Al w w2 ga (sa K m 0 0 0) ∧ Al w w2 gb (nw K 3 m 0) ∧ ga ≠ gb) := ⟨H1.out.callee hb, h, fun e => by have := H1.out.1.lt; omega⟩
  clear hg h hb H1 HN1 HN2
  go_wp2_with fail
  go_loopw [14, 15] (fun u v wr => ∃ (i : Nat) (T : Int), i ≤ R ∧ i ≤ 3 ∧ 0 ≤ T ∧ T ≤ 256 * (i : Int) ∧ u = .int .i64 T ∧ v = .int .i64 i ∧ Hid (Al w wr ga (sa K m T i i) ∧ Al w wr gb (nw K 3 m 0) ∧ ga ≠ gb)) (fun _ v _ => R - (intOf v).toNat)
  case atStart => exact ⟨0, 0, Nat.zero_le _, Nat.zero_le _, Int.le_refl _, by decide, rfl, rfl, HL⟩
  case round =>
    obtain ⟨i, T, hi, hi9, hT0, hT1, rfl, rfl, HF⟩ := hrel
    by_cases hlt : i < R
    · have hi2 : (i : Int) < (R : Int) := by omega
      have hi0 : (0 : Int) ≤ (i : Int) := Int.natCast_nonneg i
      have hT2 : T ≤ 5120 := by omega
      have hT3 : 0 ≤ T + (K : Int) := by omega
      have hT4 : T + (K : Int) ≤ 10000 := by omega
      have HI := Lib.hid (inv_sa (i := i) (mi := i) hK1 HM.out hT0 hT2 hi9 id)
      by_cases h3 : i = 3
      · subst h3
        have HT := Lib.hid (sa_dead (m := m) (i := 3) hK0 hK1 hT2)
        go_wp2_with fail
        refine (tick_at HF.out.1 HI.out HT.out).mono ?_
        rintro o w3 ⟨A3, k3, rfl, hp, hr, h, hm⟩
        have H3 := Lib.hid h
        clear hp hr h hm HT HI HF
        go_wp2_with fail
        refine (dead_at (b := true) H3.out rfl).mono ?_
        rintro o _ ⟨rfl, rfl⟩
        go_wp2_with fail
        refine (dead_at (b := true) H3.out rfl).mono ?_
        rintro o _ ⟨rfl, rfl⟩
        go_wp2_with fail
        refine (alive_any _).mono ?_
        rintro o w9 ⟨rfl, hb⟩
        have HE := Lib.hid (H3.out.2.1.trans (hb.mono H3.out.2.1.size))
        clear hb
        go_wp2
        go_ret
        exact ⟨rfl, HE.out⟩
      · have hi3 : (i : Int) < 3 := by omega
        have hi4 := decide_eq_true hi3
        have HT := Lib.hid (sa_tick (m := m) (i := i) (mi := i) hK0 hK1 hT2 h3)
        have HB := Lib.hid (gt_loop (x := nw K 3 m 0) 9 (UInt8.ofNat ((i + 1) % 256)) (own (sa K m T i i)) (.inl rfl) (by rw [own_size]; exact Nat.le_refl 4) (HLa.out 0 T 0 i 0 i))
        have HZ1 : Hid ((own (sa K m T i i)).size ≤ 140737488351232) := by show _ ≤ _; rw [own_size]; decide
        generalize own (sa K m T i i) = Y at *
        generalize UInt8.ofNat ((i + 1) % 256) = j at *
        go_wp2_with fail
        refine (tick_at HF.out.1 HI.out HT.out).mono ?_
        rintro o w3 ⟨A3, k3, rfl, hp, hr, h, hm⟩
        have H3 : Hid (Al w w3 ga (sa K m (T + K) (i + 1) (i + 1)) ∧ Al w w3 gb (nw K 3 m 0) ∧ ga ≠ gb) := ⟨h, HF.out.2.1.other HF.out.1.2.2 (fun e => HF.out.2.2 e.symm) hm, HF.out.2.2⟩
        obtain ⟨ad, pa, hAa, hpa, d0a, d1a, d2a⟩ := (hp).at_ (k := 0) (Nat.succ_pos 0)
        subst hAa
        cases hpa
        rw [Nat.zero_mul, show ad.add 0 = ad from by unfold Addr.add; simp] at d0a d1a d2a
        clear hp hr h hm HT HI HF
        go_wp2_with fail
        refine (dead_at (b := false) H3.out.1 rfl).mono ?_
        rintro o _ ⟨rfl, rfl⟩
        go_wp2_with fail
        refine (dead_at (b := false) H3.out.1 rfl).mono ?_
        rintro o _ ⟨rfl, rfl⟩
        go_wp2_with fail
        refine (packet_at (p := ⟨9, j, Y⟩) H3.out.2.1 HM.out HZ1.out HB.out).mono ?_
        rintro o w4 ⟨A4, k4, rfl, hp, hr, h, hm⟩
        have H4 : Hid (Al w w4 ga (sa K m (T + K) (i + 1) (i + 1)) ∧ Al w w4 gb (nw K 3 m 0) ∧ ga ≠ gb) := ⟨H3.out.1.other H3.out.2.1.2.2 H3.out.2.2 hm, h, H3.out.2.2⟩
        clear hp hr h hm HB H3 d0a d1a d2a
        go_wp2
        go_roundw
        case rel => exact ⟨i + 1, T + K, by omega, by omega, by omega, by omega, rfl, by go_num, H4⟩
        case measure => simp [intOf]; omega
    · obtain rfl : i = R := by omega
      go_wp2_with fail
      refine (alive_any _).mono ?_
      rintro o w9 ⟨rfl, hb⟩
      have HE := Lib.hid (HF.out.1.2.1.trans (hb.mono HF.out.1.2.1.size))
      clear hb
      go_wp2
      go_ret
      exact ⟨rfl, HE.out⟩

theorem walk (m n c d : Nat) (w : World) (hm : m < 4294967296) (hn : n < 4294967296) (hc : c ≤ 255) (hd : d ≤ 255) :
    Calls Try.prog 5 #[.int .u32 m, .int .u32 n, .int .u8 c, .int .u8 d] w fun e w' => e = .returned (.bool true) ∧ Below w.heap.size w w' := by
  obtain ⟨b1, h1⟩ : ∃ b, ((m : Int) == (n : Int)) = b := ⟨_, rfl⟩
  obtain ⟨b2, h2⟩ : ∃ b, ((m : Int) != 0) = b := ⟨_, rfl⟩
  cases hb : b1 && b2
  · exact walk_else m n c d w hm hn hc hd b1 b2 h1 h2 hb
  · simp only [Bool.and_eq_true] at hb
    obtain ⟨rfl, rfl⟩ := hb
    have e : m = n := by have := beq_iff_eq.1 h1; omega
    subst e
    exact walk_same m c d w hm hc hd (by have := bne_iff_ne.1 h2; omega)

set_option maxRecDepth 100000 in
theorem lifted (os : Os) (started : os.Started) (H : Type) (enc : TypeId × Value → H) :
    ReturnsInHanded {} Try.checked os 5 .any (Rows.echoPairSpec.pre6 enc Try.prog Try.f5 Rows.echoPairRow.domain false) (Rows.echoPairSpec.post enc Try.prog Try.f5 false true false false) := by
  refine returnsInHanded_of_change (C := Try.checked) own started (by kernel_rfl) Try.func5
    (ChangeSpec.witness6 (enc := enc) (C := Try.checked) false ⟨#[], #[.int .u32 0, .int .u32 0, .int .u8 0, .int .u8 0], []⟩ 8 (by kernel_rfl) (by kernel_rfl) (by kernel_rfl) (by kernel_rfl)) ?_
  intro W base args ds gs before hval0 hW hcnd _
  have hval : ∀ (j : Nat) t v, Try.f5.params[j]? = some t → args[j]? = some v → Value.okWide Try.prog W .any base t v := hval0
  have hW' := hW
  obtain ⟨p, q, hA0, hV, rfl, hfz, hnd⟩ := hW
  have hlt := hW'.lt
  have hA : DataW.TrodAll enc Try.prog W 0 (fun _ => true) true Try.f5.params.toList args.toList ds p := hA0
  rw [Try.params5] at hA hval
  obtain ⟨v0, vs0, d0, ds0, p0, q0, hargs, rfl, rfl, h0, r0⟩ := trodAll_cons hA
  obtain ⟨v1, vs1, d1, ds1, p1, q1, rfl, rfl, rfl, h1, r1⟩ := trodAll_cons r0
  obtain ⟨v2, vs2, d2, ds2, p2, q2, rfl, rfl, rfl, h2, r2⟩ := trodAll_cons r1
  obtain ⟨v3, vs3, d3, ds3, p3, q3, rfl, rfl, rfl, h3, r3⟩ := trodAll_cons r2
  obtain ⟨rfl, rfl, rfl⟩ := trodAll_nil r3
  obtain rfl : args = #[v0, v1, v2, v3] := by cases args; simp_all
  obtain ⟨rfl, rfl⟩ := trodVars_none hV
  obtain ⟨z0, rfl, rfl, rfl, w0⟩ := open_int Try.underlying24 (hval 0 24 v0 rfl rfl) h0
  obtain ⟨a0, rfl⟩ : ∃ n : Nat, z0 = n := ⟨z0.toNat, by have := bounds_u32 w0; omega⟩
  have b0 := bounds_u32 w0
  obtain ⟨z1, rfl, rfl, rfl, w1⟩ := open_int Try.underlying24 (hval 1 24 v1 rfl rfl) h1
  obtain ⟨a1, rfl⟩ : ∃ n : Nat, z1 = n := ⟨z1.toNat, by have := bounds_u32 w1; omega⟩
  have b1 := bounds_u32 w1
  obtain ⟨z2, rfl, rfl, rfl, w2⟩ := open_int Try.underlying5 (hval 2 5 v2 rfl rfl) h2
  obtain ⟨a2, rfl⟩ : ∃ n : Nat, z2 = n := ⟨z2.toNat, by have := bounds_u8 w2; omega⟩
  have b2 := bounds_u8 w2
  obtain ⟨z3, rfl, rfl, rfl, w3⟩ := open_int Try.underlying5 (hval 3 5 v3 rfl rfl) h3
  obtain ⟨a3, rfl⟩ : ∃ n : Nat, z3 = n := ⟨z3.toNat, by have := bounds_u8 w3; omega⟩
  have b3 := bounds_u8 w3
  clear hA0 hval0
  exact (walk a0 a1 a2 a3 W (by omega) (by omega) (by omega) (by omega)).mono fun e W' ⟨he, hb⟩ => ⟨_, he, law_post (t := 4) laidOut (by kernel_rfl) rfl rfl Try.underlying4 ⟨rfl, rfl, rfl⟩ hW' hb⟩

theorem over : Rows.echoPairRow.holds Try.pinned (OpenSpec.ofChange Rows.echoPairSpec) :=
  OpenClaim.holds_of_wide 5 Try.f5 rfl rfl rfl rfl rfl rfl rfl ⟨rfl, rfl, rfl, rfl, rfl⟩ rfl rfl rfl rfl rfl (by kernel_rfl) Try.func5 (by kernel_rfl)
    (of_decide_eq_true (by kernel_rfl)) (by unfold Func.isWrapper; first | (rw [if_pos (by decide +kernel)]; kernel_rfl) | (rw [if_neg (by decide +kernel)]; exact ⟨rfl, rfl⟩))
    (fun os started H enc _ => lifted os started H enc)

theorem proved : Rows.EchoPairSaid :=
  over
#print axioms proved
end Go.Proofs.Ytimndcfhilcgfaa.EchoPair
