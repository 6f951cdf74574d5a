/- OptRs: parted from XOptAs.lean.tpl. -/
import Derived.Test.YtpohcejgblahiaaGreatOptAs
namespace Go.Proofs.YtpohcejgblahiaaGreat.Opt
open Go.RowKit Go.Proofs.YtpohcejgblahiaaGreat.Oct Go.Proofs.YtpohcejgblahiaaGreat.Row Go.Proofs.YtpohcejgblahiaaGreat.Mem
set_option maxHeartbeats 1000000 in
set_option maxRecDepth 100000 in
theorem rsame_any (a b : List Opt) (B : Nat) (A A' : Option Addr) (n m c c' : Nat) (w : World) (ha : Opts w B A n a) (hb : Opts w B A' m b) (hn : n ≤ maxLen) (hm : m ≤ maxLen) (hBw : B ≤ w.heap.size) :
    Calls Tryz.prog 25 #[.slice A n c, .slice A' m c'] w fun e w' => e = .returned (.bool (sm a b)) ∧ Below w.heap.size w w' := by
  have Han := Lib.hid ha.1
  have Hbn := Lib.hid hb.1
  have Ha := Lib.hid ha; clear ha
  have Hb := Lib.hid hb; clear hb
  have HR := Lib.hid (Below.refl w.heap.size w)
  unfold maxLen at hn hm
  by_cases hnm : n = m
  · subst hnm
    have hx : ((n : Int) == (n : Int)) = true := by simp
    go_enter Tryz.func25, Tryz.ntmps25
    go_wp2
    go_loopw [5] (fun i wr => ∃ k : Nat, k ≤ n ∧ i = .int .i64 k ∧ Hid (a.take k = b.take k) ∧ Hid (Below w.heap.size w wr)) (fun i _ => n - (intOf i).toNat)
    case atStart => exact ⟨0, Nat.zero_le _, rfl, rfl, HR⟩
    case round =>
      obtain ⟨k, hk, rfl, HT, HB⟩ := hrel
      by_cases hlt : k < n
      · obtain ⟨ad, o, rfl, hB, ho, hS1, hc0, hc1⟩ := (Ha.out.below (HB.out.mono hBw)).at_ hlt
        obtain ⟨ad', o', rfl, hB', ho', hS1', hc0', hc1'⟩ := (Hb.out.below (HB.out.mono hBw)).at_ hlt
        by_cases e1 : o.1 = o'.1
        · by_cases e2 : o.2 = o'.2
          · have HT2 : Hid (a.take (k + 1) = b.take (k + 1)) := take_next HT.out ho ho' (Prod.ext e1 e2)
            obtain ⟨t, d⟩ := o
            obtain ⟨t', d'⟩ := o'
            subst e1 e2
            simp only at hc0 hc1 hc0' hc1'
            have hx2 : (d.toList == d.toList) = true := by simp
            clear ho ho'
            go_wp2
            go_quiet (fail)
            go_wp2
            go_roundw
            case rel => exact ⟨k + 1, by omega, by go_num, HT2, HB.out.drewN' _⟩
            case measure => simp [intOf]; omega
          · have HS := Lib.hid (sm_no ho ho' (fun e => e2 (by rw [e])))
            have hx2 := no_text e2
            have hx1 : ((o.1.toNat : Int) == (o'.1.toNat : Int)) = true := by rw [e1]; simp
            clear ho ho' e1 e2
            go_wp2
            go_quiet (fail)
            go_wp2
            go_ret
            exact ⟨by rw [HS.out] <;> rfl, HB.out.drewN' _⟩
        · have HS := Lib.hid (sm_no ho ho' (fun e => e1 (by rw [e])))
          have hx1 := no_byte e1
          clear ho ho' e1
          go_wp2
          go_quiet (fail)
          go_wp2
          go_ret
          exact ⟨by rw [HS.out] <;> rfl, HB.out.drewN' _⟩
      · obtain rfl : k = n := by omega
        have HS : Hid (sm a b = true) := by
          have h := HT.out
          rw [List.take_of_length_le (by rw [Han.out]; exact Nat.le_refl _), List.take_of_length_le (by rw [Hbn.out]; exact Nat.le_refl _)] at h
          exact decide_eq_true h
        go_wp2
        go_ret
        exact ⟨by rw [HS.out] <;> rfl, HB.out⟩
  · have HS : Hid (sm a b = false) := decide_eq_false fun e => hnm (by rw [← Han.out, ← Hbn.out, e])
    have hx : ((n : Int) == (m : Int)) = false := by rw [beq_eq_false_iff_ne]; omega
    go_enter Tryz.func25, Tryz.ntmps25
    go_wp2
    go_ret
    exact ⟨by rw [HS.out] <;> rfl, HR.out⟩
end Go.Proofs.YtpohcejgblahiaaGreat.Opt
