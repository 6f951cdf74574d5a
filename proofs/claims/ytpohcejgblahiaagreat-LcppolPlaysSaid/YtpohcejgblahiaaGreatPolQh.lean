/- The law's heavy: any row of steps. -/
import Derived.Test.YtpohcejgblahiaaGreatGLcoA
import Derived.Test.YtpohcejgblahiaaGreatOptAs
import Derived.Test.YtpohcejgblahiaaGreatGOptOf
import Derived.Test.YtpohcejgblahiaaGreatOptLo
set_option linter.unusedSimpArgs false
set_option linter.unusedVariables false
namespace Go.Proofs.YtpohcejgblahiaaGreat.Pol
open Go.RowKit Go.Proofs.YtpohcejgblahiaaGreat.Oct Go.Proofs.YtpohcejgblahiaaGreat.Row Go.Proofs.YtpohcejgblahiaaGreat.Mem Go.Proofs.YtpohcejgblahiaaGreat.Opt Go.Proofs.YtpohcejgblahiaaGreat.Lco

/-- What heavy answers. -/
def HvQ (ss : List Stp5) (n : Nat) (w : World) (e : Ending) (w' : World) : Prop := ∃ b : Bool, e = .returned (.bool b) ∧ (b = false → n ≤ 80 ∧ ∀ s ∈ ss, s.l.length ≤ 70) ∧ w = w'
theorem hvQ_true (ss : List Stp5) (n : Nat) (w : World) : HvQ ss n w (.returned (.bool true)) w := ⟨true, rfl, (fun h => by cases h), rfl⟩
theorem light_next {ss : List Stp5} {k : Nat} {s : Stp5} (h : ∀ x ∈ ss.take k, x.l.length ≤ 70) (hs : ss[k]? = some s) (hl : s.l.length ≤ 70) : ∀ x ∈ ss.take (k + 1), x.l.length ≤ 70 := by
  obtain ⟨hk, rfl⟩ := List.getElem?_eq_some_iff.1 hs
  intro x hx
  rw [List.take_succ_eq_append_getElem hk] at hx
  rcases List.mem_append.1 hx with hx | hx
  · exact h x hx
  · rw [List.mem_singleton.1 hx]; exact hl
set_option maxHeartbeats 4000000 in
set_option maxRecDepth 100000 in
theorem heavy_any (ss : List Stp5) (B : Nat) (A : Option Addr) (n c : Nat) (w : World) (hl : St5Row w B A n ss) (hn : n ≤ maxLen) :
    Calls Tryz.prog 4 #[.slice A n c] w (HvQ ss n w) := by
  have HL := Lib.hid hl
  have Hn := Lib.hid hl.1
  clear hl
  unfold maxLen at hn
  go_enter Tryz.func4, Tryz.ntmps4
  go_wp2
  go_loopw [3, 4] (fun u3 u4 wr => ∃ k m : Nat, k ≤ n ∧ k ≤ 100 ∧ u4 = .int .i64 k ∧ u3 = .int .i64 m ∧ m ≤ 70 * k ∧ Hid (∀ x ∈ ss.take k, x.l.length ≤ 70) ∧ w = wr) (fun _ u4 _ => n - (intOf u4).toNat)
  case atStart => exact ⟨0, 0, Nat.zero_le _, Nat.zero_le _, rfl, rfl, Nat.le_refl _, (fun x hx => by simp at hx), rfl⟩
  case round =>
    obtain ⟨k, m, hk, hk1, rfl, rfl, hm, HT, rfl⟩ := hrel
    by_cases hlt : k < n
    · have x1 := decide_eq_true (show (k : Int) < (n : Int) by omega)
      by_cases h1 : k < 100
      · have x2 := decide_eq_true (show (k : Int) < (100 : Int) by omega)
        obtain ⟨ad, s, rfl, hB, hs, A', c', h0, hc1, h2, h3, h4, hO, hO2, hO3, hO4⟩ := HL.out.at_ hlt
        have hc1' : w.cell? ⟨(ad.add (k * 5)).block, (ad.add (k * 5)).off + 1, none⟩ = some (.slice A' s.l.length c') := hc1
        have HG := Lib.hid (long_any s.l B A' s.l.length c' w hO hO2)
        have Hs := Lib.hid hs
        obtain ⟨q, hq⟩ : ∃ q, s.l.length = q := ⟨_, rfl⟩
        rw [hq] at hc1' HG
        have HQ := Lib.hid hq
        clear hB hs h0 hc1 h2 h3 h4 hO hO2 hO3 hO4 hq
        go_wp2_with fail
        refine HG.out.mono ?_
        rintro e w1 ⟨b, rfl, hb, rfl⟩
        cases b
        · have hq70 : q ≤ 70 := (hb rfl).1
          have HT2 := Lib.hid (light_next HT.out Hs.out (by rw [HQ.out]; exact hq70))
          clear hb HG
          go_wp2
          go_roundw
          case rel => exact ⟨k + 1, m + q, by omega, by omega, by go_num, by go_num, by omega, HT2, by trivial⟩
          case measure => simp [intOf]; omega
        · clear hb HG
          go_wp2
          go_ret
          exact hvQ_true _ _ _
      · have x2 := decide_eq_false (show ¬ (k : Int) < (100 : Int) by omega)
        have x3 := decide_eq_true (show (80 : Int) < (n : Int) by omega)
        go_wp2
        go_ret
        exact hvQ_true _ _ _
    · obtain rfl : k = n := by omega
      have x1 := decide_eq_false (show ¬ (k : Int) < (k : Int) by omega)
      by_cases h8 : 80 < k
      · have x3 := decide_eq_true (show (80 : Int) < (k : Int) by omega)
        go_wp2
        go_ret
        exact hvQ_true _ _ _
      · have x3 := decide_eq_false (show ¬ (80 : Int) < (k : Int) by omega)
        by_cases h4 : 400 < m
        · have x4 := decide_eq_true (show (400 : Int) < (m : Int) by omega)
          go_wp2
          go_ret
          exact hvQ_true _ _ _
        · have x4 := decide_eq_false (show ¬ (400 : Int) < (m : Int) by omega)
          have HE : Hid (k ≤ 80 ∧ ∀ s ∈ ss, s.l.length ≤ 70) := by
            have h := HT.out
            rw [List.take_of_length_le (by rw [Hn.out]; exact Nat.le_refl _)] at h
            exact ⟨by omega, h⟩
          go_wp2
          go_ret
          exact ⟨false, rfl, fun _ => HE.out, rfl⟩
end Go.Proofs.YtpohcejgblahiaaGreat.Pol
