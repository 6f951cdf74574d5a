/- PROVED: 'halyardlaw17.EchoDead' returns true for any Every, any Most, any row of bytes, and leaves them as they were. No condition. -/
import Derived.Test.YtimndcfhilcgfaaEchJ
import Derived.Test.YtimndcfhilcgfaaLaw
import Derived.Test.YtimndcfhilcgfaaRows
namespace Go.Proofs.Ytimndcfhilcgfaa.EchoDead
open Go.ChangeShapes Go.WideShapes Go.ChangeAt Go.RowKit Go.Proofs.Ytimndcfhilcgfaa.Oct Go.Proofs.Ytimndcfhilcgfaa.Row Go.Proofs.Ytimndcfhilcgfaa.Mem Go.Proofs.Ytimndcfhilcgfaa.Law Go.Proofs.Ytimndcfhilcgfaa.Ech Go.Proofs.Ytimndcfhilcgfaa.Pkt

def se (N k : Nat) (T : Int) (i r : Nat) : Ec := ⟨N, k, 5, T, T, i, r, false⟩
theorem inv_se {N k i r : Nat} {T S : Int} (h1 : N ≤ 256) (hk0 : 1 ≤ k) (hk : k ≤ 20) (h0 : 0 ≤ T) (hS : T ≤ S) (hT : S ≤ 100000) (hr : r ≤ k) (hn : 0 < r → 0 < i) : Inv { se N k T i r with now := S } :=
  ⟨by show N ≤ 100000; omega, hk0, hk, by show 5 < 4294967296; decide, h0, hS, by show S ≤ 1152921504606846976; omega, hr, hn⟩
theorem se_early {N k i r : Nat} {T : Int} (h0 : 1 ≤ N) (h1 : N ≤ 256) (hT : T ≤ 50000) :
    tE (se N k T i r) (T + N - 1) = 0 ∧ tk (se N k T i r) (T + N - 1) = { se N k T i r with now := T + N - 1 } ∧ tL (se N k T i r) (T + N - 1) = [] :=
  tk_early (x := se N k T i r) (by show T ≤ T + N - 1; omega) (by show T + (N : Int) - 1 ≤ 1152921504606846976; omega) (due_no (.inr (by show T + (N : Int) - 1 < T + N; omega)))
theorem se_due {N k i r : Nat} {T : Int} (h0 : 1 ≤ N) (h1 : N ≤ 256) (hT : T ≤ 50000) (hr : r ≠ k) :
    tE { se N k T i r with now := T + N - 1 } (T + N) = 0 ∧ tk { se N k T i r with now := T + N - 1 } (T + N) = se N k (T + N) (i + 1) (r + 1) ∧ tL { se N k T i r with now := T + N - 1 } (T + N) = [⟨9, UInt8.ofNat ((i + 1) % 256), bOf (numS 5 4)⟩] :=
  tk_due (x := { se N k T i r with now := T + N - 1 }) (by show T + N - 1 ≤ T + N; omega) (by show T + (N : Int) ≤ 1152921504606846976; omega) (due_yes (by show N ≠ 0; omega) rfl (by show T + (N : Int) ≤ T + N; omega)) hr
def sx (N k : Nat) (T : Int) (i : Nat) : Ec := ⟨N, k, 5, T + N, T, i, k, true⟩
theorem se_dead {N k i : Nat} {T : Int} (h0 : 1 ≤ N) (h1 : N ≤ 256) (hT : T ≤ 50000) :
    tE { se N k T i k with now := T + N - 1 } (T + N) = 0 ∧ tk { se N k T i k with now := T + N - 1 } (T + N) = sx N k T i ∧ tL { se N k T i k with now := T + N - 1 } (T + N) = [] :=
  tk_dead (x := { se N k T i k with now := T + N - 1 }) (by show T + N - 1 ≤ T + N; omega) (by show T + (N : Int) ≤ 1152921504606846976; omega) (due_yes (by show N ≠ 0; omega) rfl (by show T + (N : Int) ≤ T + N; omega)) rfl
theorem se_gone {N k i : Nat} {T : Int} (h1 : N ≤ 256) (hT : T ≤ 50000) :
    tE (sx N k T i) (T + N + 1000) = 0 ∧ tk (sx N k T i) (T + N + 1000) = { sx N k T i with now := T + N + 1000 } ∧ tL (sx N k T i) (T + N + 1000) = [] :=
  tk_early (x := sx N k T i) (by show T + N ≤ T + N + 1000; omega) (by show T + (N : Int) + 1000 ≤ 1152921504606846976; omega) (due_no (.inl rfl))
theorem byte_at {w : World} {B : Nat} {A : Option Addr} {n k : Nat} (h : Ints w B A n .u8) (hk : k < n) : ∃ (ad : Addr) (y : Nat), A = some ad ∧ y ≤ 255 ∧ w.cell? (ad.add k) = some (.int .u8 (y : Int)) := by
  obtain ⟨ad, z, hA, _, hc, hz⟩ := h k hk
  have hb := bounds_u8 hz
  refine ⟨ad, z.toNat, hA, by omega, ?_⟩
  rw [hc, Int.toNat_of_nonneg (by omega)]
set_option maxRecDepth 100000 in
theorem se_loop (N k i r : Nat) (T : Int) : loopB (se N k T i r) ⟨#[0, 0, 0, 6, 109, 111, 114, 101]⟩ = false := by kernel_rfl
theorem j_nat {i : Nat} (h : i < 100) : ((UInt8.ofNat ((i + 1) % 256)).toNat : Int) = (i : Int) + 1 := by
  rw [UInt8.toNat_ofNat']
  omega
set_option maxHeartbeats 8000000 in
set_option maxRecDepth 100000 in
theorem walk (c d : Nat) (A : Option Addr) (n q : Nat) (w : World) (hc : c ≤ 255) (hd : d ≤ 255) (hnm : n ≤ maxLen) (hI : Ints w w.heap.size A n .u8) :
    Calls Try.prog 4 #[.int .u8 c, .int .u8 d, .slice A n q] w fun e w' => e = .returned (.bool true) ∧ Below w.heap.size w w' := by
  unfold maxLen at hnm
  obtain ⟨R, hR, hr⟩ : ∃ R : Nat, R < 20 ∧ (d : Int).tmod 20 = (R : Int) := ⟨d % 20, Nat.mod_lt _ (by decide), rfl⟩
  obtain ⟨K, hK⟩ : ∃ K : Nat, R + 1 = K := ⟨_, rfl⟩
  obtain ⟨N, hN⟩ : ∃ N : Nat, c + 1 = N := ⟨_, rfl⟩
  have hN0 : 1 ≤ N := by omega
  have hN1 : N ≤ 256 := by omega
  have hK0 : 1 ≤ K := by omega
  have hK1 : K ≤ 20 := by omega
  have hk : (1 : Int) + (R : Int) = (K : Int) := by omega
  have hn' : (1 : Int) + (c : Int) = (N : Int) := by omega
  have hNi0 : (1 : Int) ≤ (N : Int) := by omega
  have hNi1 : (N : Int) ≤ 256 := by omega
  have hc0 : (0 : Int) ≤ (c : Int) := Int.natCast_nonneg c
  have hc1 : (c : Int) ≤ 255 := by omega
  have hd0 : (0 : Int) ≤ (d : Int) := Int.natCast_nonneg d
  have hd1 : (d : Int) ≤ 255 := by omega
  have HI := Lib.hid hI
  have HN1 : Hid (Calls Try.prog 14 #[.agg #[.int .i64 N, .int .i64 K], .int .u32 5, .int .i64 0] w fun o w' => ∃ g, o = .returned (.tuple #[.pointer (some ⟨g, 0, none⟩), .int .i64 0]) ∧ w.heap.size ≤ g ∧ Al w w' g (nw N K 5 0) ∧ Below w.heap.size w w') := new_al N K 5 0 w w (Below.refl _ w) (by simp [may]; exact ⟨⟨⟨by omega, by omega⟩, by omega⟩, by decide⟩)
  clear hI hK hN hc hd
  by_cases h1 : 100 < n
  · clear HN1
    have h1' : (100 : Int) < (n : Int) := by omega
    have h1'' := decide_eq_true h1
    go_enter Try.func4, Try.ntmps4
    go_wp2_with fail
    refine (alive_any _).mono ?_
    rintro o w9 ⟨rfl, hb⟩
    have HE := Lib.hid ((Below.refl w.heap.size w).trans (hb.mono (Below.refl w.heap.size w).size))
    clear hb
    go_wp2
    go_ret
    exact ⟨rfl, HE.out⟩
  · have h1' : ¬ (100 : Int) < (n : Int) := by omega
    have h1'' := decide_eq_false h1
    have hn1 : n ≤ 100 := by omega
    have hn2 : (n : Int) ≤ 100 := by omega
    go_enter Try.func4, Try.ntmps4
    go_wp2_with fail
    refine HN1.out.mono ?_
    rintro o w1 ⟨g, rfl, hg, h, hb⟩
    have HL : Hid (Al w w1 g (se N K 0 0 0)) := h
    clear hg h hb HN1
    go_wp2_with fail
    go_loopw [11, 12, 13] (fun u v z wr => ∃ (i r : Nat) (T : Int), i ≤ n ∧ r ≤ K ∧ (0 < r → 0 < i) ∧ 0 ≤ T ∧ T ≤ 256 * (i : Int) ∧ u = .int .i64 T ∧ v = .int .i64 r ∧ z = .int .i64 i ∧ Hid (Al w wr g (se N K T i r))) (fun _ _ z _ => n - (intOf z).toNat)
    case atStart => exact ⟨0, 0, 0, Nat.zero_le _, Nat.zero_le _, fun e => e, Int.le_refl _, by decide, rfl, rfl, rfl, HL⟩
    case round =>
      obtain ⟨i, r, T, hi, hrK, hri, hT0, hT1, rfl, rfl, rfl, HF⟩ := hrel
      have HRI := Lib.hid hri
      clear hri
      by_cases hlt : i < n
      · have hi2 : (i : Int) < (n : Int) := by omega
        have hi3 : (i : Int) ≤ 99 := by omega
        have hi0 : (0 : Int) ≤ (i : Int) := Int.natCast_nonneg i
        have hT2 : T ≤ 50000 := by omega
        have hT3 : 0 ≤ T + (N : Int) := by omega
        have hT4 : T + (N : Int) ≤ 51000 := by omega
        have hT5 : 0 ≤ T + (N : Int) - 1 := by omega
        have hr0 : (0 : Int) ≤ (r : Int) := Int.natCast_nonneg r
        have hr1 : (r : Int) ≤ 20 := by omega
        have HV := Lib.hid (inv_se (S := T) (i := i) hN1 hK0 hK1 hT0 (Int.le_refl T) (by omega) hrK HRI.out)
        have HV2 := Lib.hid (inv_se (S := T + N - 1) (i := i) hN1 hK0 hK1 hT0 (by omega) (by omega) hrK HRI.out)
        have HT1 := Lib.hid (se_early (k := K) (i := i) (r := r) hN0 hN1 hT2)
        go_wp2_with fail
        refine (tick_at HF.out HV.out HT1.out).mono ?_
        rintro o w3 ⟨A3, k3, rfl, _, _, h, _⟩
        have H3 := Lib.hid h
        clear h HT1 HF HV
        by_cases hrk : r = K
        · subst hrk
          have HT2 := Lib.hid (se_dead (k := r) (i := i) hN0 hN1 hT2)
          have HT3 := Lib.hid (se_gone (k := r) (i := i) hN1 hT2)
          have HV3 : Hid (Inv (sx N r T i)) := ⟨by show N ≤ 100000; omega, hK0, hK1, by show 5 < 4294967296; decide, hT0, by show T ≤ T + N; omega, by show T + (N : Int) ≤ 1152921504606846976; omega, Nat.le_refl _, HRI.out⟩
          have HV4 : Hid (Inv { sx N r T i with now := T + N + 1000 }) := ⟨by show N ≤ 100000; omega, hK0, hK1, by show 5 < 4294967296; decide, hT0, by show T ≤ T + N + 1000; omega, by show T + (N : Int) + 1000 ≤ 1152921504606846976; omega, Nat.le_refl _, HRI.out⟩
          go_wp2_with fail
          refine (tick_at H3.out HV2.out HT2.out).mono ?_
          rintro o w4 ⟨A4, k4, rfl, _, _, h, _⟩
          have H4 := Lib.hid h
          clear h HT2 H3 HV2
          go_wp2_with fail
          refine (dead_at (b := true) H4.out rfl).mono ?_
          rintro o _ ⟨rfl, rfl⟩
          go_wp2_with fail
          refine (tick_at H4.out HV3.out HT3.out).mono ?_
          rintro o w5 ⟨A5, k5, rfl, _, _, h, _⟩
          have H5 := Lib.hid h
          clear h HT3 H4 HV3
          go_wp2_with fail
          refine (next_any g _ _ H5.out.1 HV4.out).mono ?_
          rintro o w6 ⟨rfl, m, rfl⟩
          have HNx : Hid (isB { sx N r T i with now := T + N + 1000 } = false) := by show _ = _; unfold isB; exact (by simp [sx])
          rw [HNx.out]
          generalize atV { sx N r T i with now := T + N + 1000 } = av at *
          have H6 := Lib.hid (H5.out.2.1.drewN' m)
          go_wp2_with fail
          refine (alive_any _).mono ?_
          rintro o w9 ⟨rfl, hb⟩
          have HE := Lib.hid (H6.out.trans (hb.mono H6.out.size))
          clear hb
          go_wp2
          go_ret
          exact ⟨rfl, HE.out⟩
        · have hrl : r < K := by omega
          have hrl2 : (r : Int) < (K : Int) := by omega
          have hrd : decide (K ≤ r) = false := decide_eq_false (by omega)
          have HT2 := Lib.hid (se_due (k := K) (i := i) (r := r) hN0 hN1 hT2 hrk)
          have HJ := Lib.hid (j_nat (i := i) (by omega))
          have HA := Lib.hid (gt_reply (x := se N K (T + N) (i + 1) (r + 1)) (UInt8.ofNat ((i + 1) % 256)) ⟨#[0, 0, 0, 6, 109, 111, 114, 101]⟩ (by decide) (se_loop _ _ _ _ _) (late_no (x := se N K (T + N) (i + 1) (r + 1)) (Nat.succ_ne_zero i)))
          have HZ : Hid ({ se N K (T + N) (i + 1) (r + 1) with mi := 0 } = se N K (T + N) (i + 1) 0) := rfl
          rw [HZ.out] at HA
          generalize bOf (numS 5 4) = Y at *
          generalize UInt8.ofNat ((i + 1) % 256) = j at *
          go_wp2_with fail
          refine (tick_at H3.out HV2.out HT2.out).mono ?_
          rintro o w4 ⟨A4, k4, rfl, hp, hr, h, hm⟩
          have H4 := Lib.hid h
          obtain ⟨ae, pb, hAb, hpb, d0b, d1b, d2b⟩ := (hp).at_ (k := 0) (Nat.succ_pos 0)
          subst hAb
          cases hpb
          rw [Nat.zero_mul, show ae.add 0 = ae from by unfold Addr.add; simp] at d0b d1b d2b
          rw [HJ.out] at d1b
          have HPK := Lib.hid (show (j.toNat : Int) = (i : Int) + 1 from HJ.out)
          clear hp hr h hm HT2 H3 HV2
          obtain ⟨ad, y, rfl, hyb, hy⟩ := byte_at (HI.out.below H4.out.2.1) hlt
          have hy0 : (0 : Int) ≤ y := Int.natCast_nonneg y
          have hy1 : (y : Int) ≤ 255 := by omega
          obtain ⟨e, he, hye⟩ : ∃ e : Nat, e < 2 ∧ (y : Int).tmod 2 = (e : Int) := ⟨y % 2, Nat.mod_lt _ (by decide), rfl⟩
          go_wp2_with fail
          refine (dead_at (b := false) H4.out rfl).mono ?_
          rintro o _ ⟨rfl, rfl⟩
          obtain rfl | rfl : e = 0 ∨ e = 1 := by omega
          · go_wp2_with fail
            refine (missed_at (m := r + 1) H4.out rfl).mono ?_
            rintro o _ ⟨rfl, rfl⟩
            go_wp2
            go_roundw
            case rel => exact ⟨i + 1, r + 1, T + N, by omega, by omega, by omega, by omega, by omega, rfl, by go_num, by go_num, H4⟩
            case measure => simp [intOf]; omega
          · go_wp2_with fail
            have HC : Hid (Calls Try.prog 9 #[.pointer (some ⟨g, 0, none⟩), .agg #[.int .u8 10, .int .u8 ((i : Int) + 1), .string ⟨#[0, 0, 0, 6, 109, 111, 114, 101]⟩]] w4 (RepQ w g (se N K (T + N) (i + 1) 0) [] 0 w4)) := by
              have h := packet_at (p := ⟨10, j, ⟨#[0, 0, 0, 6, 109, 111, 114, 101]⟩⟩) H4.out (by show 5 < 4294967296; decide) (show (⟨#[0, 0, 0, 6, 109, 111, 114, 101]⟩ : ByteArray).size ≤ 140737488351232 by decide) HA.out
              rw [← HJ.out]
              exact h
            refine HC.out.mono ?_
            rintro o w5 ⟨A5, k5, rfl, _, _, h, _⟩
            have H5 := Lib.hid h
            clear h HC
            go_wp2_with fail
            refine (missed_at (m := 0) H5.out rfl).mono ?_
            rintro o _ ⟨rfl, rfl⟩
            go_wp2
            go_roundw
            case rel => exact ⟨i + 1, 0, T + N, by omega, by omega, by omega, by omega, by omega, rfl, rfl, by go_num, H5⟩
            case measure => simp [intOf]; omega
      · obtain rfl : i = n := by omega
        go_wp2_with fail
        refine (alive_any _).mono ?_
        rintro o w9 ⟨rfl, hb⟩
        have HE := Lib.hid (HF.out.2.1.trans (hb.mono HF.out.2.1.size))
        clear hb
        go_wp2
        go_ret
        exact ⟨rfl, HE.out⟩

set_option maxRecDepth 100000 in
theorem lifted (os : Os) (started : os.Started) (H : Type) (enc : TypeId × Value → H) :
    ReturnsInHanded {} Try.checked os 4 .any (Rows.echoDeadSpec.pre6 enc Try.prog Try.f4 Rows.echoDeadRow.domain false) (Rows.echoDeadSpec.post enc Try.prog Try.f4 false true false false) := by
  refine returnsInHanded_of_change (C := Try.checked) own started (by kernel_rfl) Try.func4
    (ChangeSpec.witness6 (enc := enc) (C := Try.checked) false ⟨#[], #[.int .u8 0, .int .u8 0, .slice none 0 0], []⟩ 8 (by kernel_rfl) (by kernel_rfl) (by kernel_rfl) (by kernel_rfl)) ?_
  intro W base args ds gs before hval0 hW hcnd _
  have hval : ∀ (j : Nat) t v, Try.f4.params[j]? = some t → args[j]? = some v → Value.okWide Try.prog W .any base t v := hval0
  have hW' := hW
  obtain ⟨p, q, hA0, hV, rfl, hfz, hnd⟩ := hW
  have hlt := hW'.lt
  have hA : DataW.TrodAll enc Try.prog W 0 (fun _ => true) true Try.f4.params.toList args.toList ds p := hA0
  rw [Try.params4] at hA hval
  obtain ⟨v0, vs0, d0, ds0, p0, q0, hargs, rfl, rfl, h0, r0⟩ := trodAll_cons hA
  obtain ⟨v1, vs1, d1, ds1, p1, q1, rfl, rfl, rfl, h1, r1⟩ := trodAll_cons r0
  obtain ⟨v2, vs2, d2, ds2, p2, q2, rfl, rfl, rfl, h2, r2⟩ := trodAll_cons r1
  obtain ⟨rfl, rfl, rfl⟩ := trodAll_nil r2
  obtain rfl : args = #[v0, v1, v2] := by cases args; simp_all
  obtain ⟨rfl, rfl⟩ := trodVars_none hV
  obtain ⟨z0, rfl, rfl, rfl, w0⟩ := open_int Try.underlying5 (hval 0 5 v0 rfl rfl) h0
  obtain ⟨a0, rfl⟩ : ∃ n : Nat, z0 = n := ⟨z0.toNat, by have := bounds_u8 w0; omega⟩
  have b0 := bounds_u8 w0
  obtain ⟨z1, rfl, rfl, rfl, w1⟩ := open_int Try.underlying5 (hval 1 5 v1 rfl rfl) h1
  obtain ⟨a1, rfl⟩ : ∃ n : Nat, z1 = n := ⟨z1.toNat, by have := bounds_u8 w1; omega⟩
  have b1 := bounds_u8 w1
  obtain ⟨A2, n2, c2, rfl, m2, hI2⟩ := ints_of Try.underlying52 Try.underlying5 (by kernel_rfl) (hval 2 52 v2 rfl rfl) h2
  clear hA0 hval0
  exact (walk a0 a1 A2 n2 c2 W (by omega) (by omega) m2 hI2).mono fun e W' ⟨he, hb⟩ => ⟨_, he, law_post (t := 4) laidOut (by kernel_rfl) rfl rfl Try.underlying4 ⟨rfl, rfl, rfl⟩ hW' hb⟩

theorem over : Rows.echoDeadRow.holds Try.pinned (OpenSpec.ofChange Rows.echoDeadSpec) :=
  OpenClaim.holds_of_wide 4 Try.f4 rfl rfl rfl rfl rfl rfl rfl ⟨rfl, rfl, rfl, rfl, rfl⟩ rfl rfl rfl rfl rfl (by kernel_rfl) Try.func4 (by kernel_rfl)
    (of_decide_eq_true (by kernel_rfl)) (by unfold Func.isWrapper; first | (rw [if_pos (by decide +kernel)]; kernel_rfl) | (rw [if_neg (by decide +kernel)]; exact ⟨rfl, rfl⟩))
    (fun os started H enc _ => lifted os started H enc)

theorem proved : Rows.EchoDeadSaid :=
  over
#print axioms proved
end Go.Proofs.Ytimndcfhilcgfaa.EchoDead
