/- 'long'. -/
import Derived.Test.YtimndcfhilcgfaaEchSt
import Derived.Test.YtimndcfhilcgfaaEchL
namespace Go.Proofs.Ytimndcfhilcgfaa.Ech
open Go.RowKit Go.Proofs.Ytimndcfhilcgfaa.Oct Go.Proofs.Ytimndcfhilcgfaa.Row Go.Proofs.Ytimndcfhilcgfaa.Mem

theorem Stps.at_ {w : World} {B : Nat} {A : Option Addr} {n k : Nat} (h : Stps w B A n) (hk : k < n) : ∃ ad s, A = some ad ∧ ad.block < B ∧ StpAt w (ad.add (k * 6)) s ∧ s.p.d.size ≤ 140737488351232 ∧ s.mg < 4294967296 ∧ -9223372036854775808 ≤ s.a ∧ s.a ≤ 9223372036854775807 := h k hk
def LongQ (n : Nat) (w : World) (o : Ending) (w' : World) : Prop := (∃ b, o = .returned (.bool b) ∧ (b = false → n ≤ 150)) ∧ w = w'
set_option maxHeartbeats 2000000 in
set_option maxRecDepth 100000 in
theorem long_any (A : Option Addr) (n c : Nat) (w : World) (h : Stps w w.heap.size A n) (hn : n ≤ maxLen) : Calls Try.prog 6 #[.slice A n c] w (LongQ n w) := by
  have H := Lib.hid h
  unfold maxLen at hn
  clear h
  go_enter Try.func6, Try.ntmps6
  go_wp2
  go_loop [3, 4] (fun u v => ∃ (k : Nat) (s : Int), k ≤ n ∧ k ≤ 200 ∧ 0 ≤ s ∧ s ≤ 140737488351232 * (k : Int) ∧ u = .int .i64 s ∧ v = .int .i64 k) (fun _ v => n - (intOf v).toNat)
  case atStart => exact ⟨0, 0, Nat.zero_le _, Nat.zero_le _, Int.le_refl _, by decide, rfl, rfl⟩
  case round =>
    obtain ⟨k, s, hk, hk2, hs0, hs1, rfl, rfl⟩ := hrel
    have hs2 : s ≤ 28147497670246400 := by omega
    by_cases hlt : k < n
    · have hkn : (k : Int) < (n : Int) := by omega
      by_cases hl2 : k < 200
      · have hk200 : (k : Int) < 200 := by omega
        obtain ⟨ad, st, rfl, hb, ⟨_, _, _, _, c4, _⟩, hz, _⟩ := H.out.at_ hlt
        have hz1 : (st.p.d.size : Int) ≤ 140737488351232 := by omega
        go_wp2
        go_round
        case rel => exact ⟨k + 1, s + st.p.d.size, by omega, by omega, by omega, by omega, by go_num, by go_num⟩
        case measure => simp [intOf]; omega
      · have hk200 : ¬ (k : Int) < 200 := by omega
        have hn150 : (150 : Int) < (n : Int) := by omega
        go_wp2
        go_ret
        exact ⟨⟨true, rfl, fun e => by cases e⟩, rfl⟩
    · have hkn : ¬ (k : Int) < (n : Int) := by omega
      by_cases h150 : 150 < n
      · have hn150 : (150 : Int) < (n : Int) := by omega
        go_wp2
        go_ret
        exact ⟨⟨true, rfl, fun e => by cases e⟩, rfl⟩
      · have hn150 : ¬ (150 : Int) < (n : Int) := by omega
        obtain ⟨b, hb⟩ : ∃ b, decide (8192 < s) = b := ⟨_, rfl⟩
        go_wp2
        go_ret
        exact ⟨⟨b, rfl, fun _ => by omega⟩, rfl⟩
end Go.Proofs.Ytimndcfhilcgfaa.Ech
