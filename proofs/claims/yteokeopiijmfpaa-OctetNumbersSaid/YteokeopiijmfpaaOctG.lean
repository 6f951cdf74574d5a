/- Contracts of Same and of Long; a row of the call's own as texts. -/
import Derived.Test.YteokeopiijmfpaaOctF
namespace Go.Proofs.Yteokeopiijmfpaa.Oct
open Go.RowKit

theorem strs_own {w : World} {base n : Nat} {e : TypeId} {v : Value} {l : List ByteArray} (h : w.ownsRow base e 1 v n (textsV l)) (hz : ∀ s ∈ l, s.size ≤ maxLen) :
    ∃ A c, v = .slice A n c ∧ Strs w w.heap.size A n l := by
  have hl : l.length = n := by have := h.1; simpa [textsV] using this
  rcases h.2 with ⟨rfl, rfl⟩ | ⟨g, cap, cur, rfl, hg, hh, _⟩
  · exact ⟨none, 0, rfl, hl, hz, fun h0 => absurd h0 (by omega)⟩
  · have hlt : g < w.heap.size := by
      rcases Nat.lt_or_ge g w.heap.size with hlt | hge
      · exact hlt
      · rw [Array.getElem?_eq_none hge] at hh; cases hh
    refine ⟨some ⟨g, 0, none⟩, cap, rfl, hl, hz, fun _ => ⟨_, rfl, hlt, fun j hj => ?_⟩⟩
    exact h.cells (g := g) rfl j _ (by simp [textsV, List.getElem?_eq_getElem hj])
theorem split_small (s : ByteArray) : ∀ t ∈ splitL s, t.size ≤ 255 := by
  intro t ht
  unfold splitL at ht
  cases hs : split s.toList with
  | none => rw [hs] at ht; cases ht
  | some l =>
    rw [hs] at ht
    obtain ⟨u, hu, rfl⟩ := List.mem_map.1 ht
    rw [size_bOf]
    exact (split_some _ s.toList l (Nat.le_refl _) hs).2 u hu

theorem drewN_strs {w : World} {B n k : Nat} {A : Option Addr} {l : List ByteArray} (h : Strs w B A n l) : Strs (w.drewN k) B A n l := h

theorem take_more {l l' : List ByteArray} {k : Nat} {t : ByteArray} (h : l.take k = l'.take k) (h1 : l[k]? = some t) (h2 : l'[k]? = some t) : Hid (l.take (k + 1) = l'.take (k + 1)) := by
  obtain ⟨hk, e⟩ := List.getElem?_eq_some_iff.1 h1
  obtain ⟨hk', e'⟩ := List.getElem?_eq_some_iff.1 h2
  show _ = _
  rw [List.take_succ_eq_append_getElem hk, List.take_succ_eq_append_getElem hk', h, e, e']

set_option maxHeartbeats 1000000 in
theorem same_any (A A' : Option Addr) (n n' c c' : Nat) (l l' : List ByteArray) (w : World) (hn : n ≤ maxLen) (hl : Strs w w.heap.size A n l) (hl' : Strs w w.heap.size A' n' l') :
    Calls Try.prog 25 #[.slice A n c, .slice A' n' c'] w fun e w' => e = .returned (.bool (decide (l = l'))) ∧ ∃ k, w' = w.drewN k := by
  have Hl := Lib.hid hl; clear hl
  have Hl' := Lib.hid hl'; clear hl'
  unfold maxLen at hn
  by_cases hnn : n = n'
  · subst hnn
    go_enter Try.func25, Try.ntmps25
    go_wp2
    go_loopw [5] (fun i wr => ∃ (k q : Nat), k ≤ n ∧ i = .int .i64 k ∧ Hid (l.take k = l'.take k) ∧ wr = w.drewN q) (fun i _ => n - (intOf i).toNat)
    case atStart => exact ⟨0, 0, Nat.zero_le _, rfl, rfl, rfl⟩
    case round =>
      obtain ⟨k, q, hk, rfl, Hk, rfl⟩ := hrel
      by_cases hlt : k < n
      · obtain ⟨ad, t, rfl, hB, ht, htl, hc⟩ := Hl.out.at_ hlt
        obtain ⟨ad', t', rfl, hB', ht', htl', hc'⟩ := Hl'.out.at_ hlt
        have Ht := Lib.hid ht; clear ht
        have Ht' := Lib.hid ht'; clear ht'
        by_cases he : t = t'
        · have h1 : (t.toList == t'.toList) = true := by rw [he]; simp
          have He := Lib.hid he; clear he
          go_wp2
          go_quiet (fail)
          go_wp2
          go_roundw
          case rel => exact ⟨k + 1, q + nq, by omega, by go_num, take_more Hk.out Ht.out (He.out ▸ Ht'.out), rfl⟩
          case measure => simp [intOf]; omega
        · have h1 : (t.toList == t'.toList) = false := by
            rw [beq_toList]
            exact decide_eq_false fun h => he (toList_inj h)
          have He := Lib.hid he; clear he
          go_wp2
          go_quiet (fail)
          go_wp2
          go_ret
          have hne : ¬ l = l' := by
            rintro rfl
            have h2 := Ht.out
            rw [Ht'.out] at h2
            exact He.out (Option.some.inj h2).symm
          rw [decide_eq_false hne]
          exact ⟨rfl, _, World.drewN_drewN _ _ _⟩
      · obtain rfl : k = n := by omega
        go_wp2
        go_ret
        have h2 := Hk.out
        rw [List.take_of_length_le (by rw [Hl.out.1]; exact Nat.le_refl _), List.take_of_length_le (by rw [Hl'.out.1]; exact Nat.le_refl _)] at h2
        rw [decide_eq_true h2]
        exact ⟨rfl, q, rfl⟩
  · have h1 : ((n : Int) != n') = true := by simp; omega
    have Hnn := Lib.hid hnn; clear hnn
    go_enter Try.func25, Try.ntmps25
    go_wp2
    go_ret
    have hne : ¬ l = l' := by
      rintro rfl
      exact Hnn.out (Hl.out.1.symm.trans Hl'.out.1)
    rw [decide_eq_false hne]
    exact ⟨rfl, 0, rfl⟩

def LongP (n : Nat) (w : World) (e : Ending) (w' : World) : Prop := ∃ b : Bool, e = .returned (.bool b) ∧ (b = false → n ≤ 300) ∧ w = w'

theorem long_mk (n : Nat) (w : World) (x : Int) : LongP n w (.returned (.bool (decide (300 < (n : Int)) || decide (32768 < x)))) w := by
  refine ⟨_, rfl, fun h => ?_, rfl⟩
  have h1 := (Bool.or_eq_false_iff.1 h).1
  have h2 := of_decide_eq_false h1
  omega

theorem long_true (n : Nat) (w : World) : LongP n w (.returned (.bool true)) w := ⟨true, rfl, (fun h => by cases h), rfl⟩

set_option maxHeartbeats 1000000 in
set_option maxRecDepth 100000 in
theorem long_any (A : Option Addr) (n c : Nat) (l : List ByteArray) (w : World) (hl : Strs w w.heap.size A n l) :
    Calls Try.prog 16 #[.slice A n c] w (LongP n w) := by
  have Hl := Lib.hid hl; clear hl
  go_enter Try.func16, Try.ntmps16
  go_wp2
  go_loop [3, 4] (fun v i => ∃ (k : Nat) (x : Int), k ≤ n ∧ k ≤ 400 ∧ i = .int .i64 k ∧ v = .int .i64 x) (fun _ i => 400 - (intOf i).toNat)
  case atStart => exact ⟨0, 0, Nat.zero_le _, Nat.zero_le _, rfl, rfl⟩
  case round =>
    obtain ⟨k, x, hk, hk4, rfl, rfl⟩ := hrel
    by_cases hlt : k < n
    · obtain ⟨ad, t, rfl, hB, ht, htl, hc⟩ := Hl.out.at_ hlt
      clear ht
      by_cases h400 : k < 400
      · go_wp2
        go_round
        case rel => exact ⟨k + 1, _, by omega, by omega, by go_num, rfl⟩
        case measure => simp [intOf]; omega
      · have h3 : 300 < n := by omega
        go_wp2
        all_goals
          go_ret
          first | exact long_true n w | exact long_mk n w x
    · go_wp2
      all_goals
        go_ret
        first | exact long_true n w | exact long_mk n w x
end Go.Proofs.Yteokeopiijmfpaa.Oct
