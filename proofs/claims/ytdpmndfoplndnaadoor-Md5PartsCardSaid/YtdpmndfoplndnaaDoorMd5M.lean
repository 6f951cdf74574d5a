/- Contracts of layer 5's own functions: long, all, alive. -/
import Derived.Test.YtdpmndfoplndnaaDoorMd5L
import Derived.Test.YtdpmndfoplndnaaDoorMd5Known
namespace Go.Proofs.YtdpmndfoplndnaaDoor.Md5
open Go.RowKit Go.Proofs.YtdpmndfoplndnaaDoor.Oct Go.Proofs.YtdpmndfoplndnaaDoor.Row Go.Proofs.YtdpmndfoplndnaaDoor.Mem

/-- What layer 5 leaves out. -/
def isLong (l : List ByteArray) : Bool := decide (60 < l.length) || decide (8192 < (cat (l.take 100)).length)
theorem long_no {l : List ByteArray} (h : isLong l = false) : l.length ≤ 60 ∧ (cat l).length ≤ 8192 := by
  unfold isLong at h
  rw [Bool.or_eq_false_iff, decide_eq_false_iff_not, decide_eq_false_iff_not] at h
  have e : l.take 100 = l := List.take_of_length_le (by omega)
  rw [e] at h
  omega
set_option maxHeartbeats 1000000 in
set_option maxRecDepth 100000 in
theorem long_any (A : Option Addr) (n c : Nat) (l : List ByteArray) (w : World) (hn : n ≤ maxLen) (hl : Strs w w.heap.size A n l) (hsz : ∀ s ∈ l, s.size ≤ 140737488351232) :
    Calls Tryd.prog 11 #[.slice A n c] w fun e w' => e = .returned (.bool (isLong l)) ∧ w' = w := by
  have HL := Lib.hid hl
  have hln := hl.1
  have HI : Hid (isLong l = (decide (60 < n) || decide (8192 < (cat (l.take 100)).length))) := by show _ = _; unfold isLong; rw [hln]
  have Hln := Lib.hid hln
  have HSZ := Lib.hid hsz
  clear hl hln hsz
  unfold maxLen at hn
  go_enter Tryd.func11, Tryd.ntmps11
  go_wp2
  go_loop [3, 4] (fun v i => ∃ k : Nat, k ≤ n ∧ k ≤ 100 ∧ i = .int .i64 k ∧ v = .int .i64 ((cat (l.take k)).length : Int) ∧ (cat (l.take k)).length ≤ k * 140737488355328) (fun _ i => 100 - (intOf i).toNat)
  case atStart => exact ⟨0, Nat.zero_le _, Nat.zero_le _, rfl, rfl, by simp [cat]⟩
  case round =>
    obtain ⟨k, hk, hk1, rfl, rfl, hle⟩ := hrel
    by_cases hlt : k < n
    · by_cases hlt1 : k < 100
      · obtain ⟨ad, t, rfl, hB, ht, htl, hc⟩ := HL.out.at_ hlt
        have HC : Hid ((cat (l.take (k + 1))).length = (cat (l.take k)).length + t.size) := by show _ = _; rw [cat_snoc l k t ht, List.length_append, ← size_toList]
        have hts := HSZ.out t (List.mem_of_getElem? ht)
        clear ht htl
        generalize (cat (l.take k)).length = q at *
        have hq : q ≤ 14073748835532800 := by
          have : k * 140737488355328 ≤ 100 * 140737488355328 := Nat.mul_le_mul_right _ hk1
          omega
        have hk2 : (k : Int) < 100 := by omega
        have hk3 : (0 : Int) ≤ k := by omega
        have hq2 : (q : Int) ≤ 14073748835532800 := by omega
        have hle2 : q + t.size ≤ (k + 1) * 140737488355328 := by omega
        have Hle2 := Lib.hid hle2; clear hle2 hle
        go_wp2
        go_round
        case rel => exact ⟨k + 1, by omega, by omega, by go_num, by rw [HC.out]; go_num, by rw [HC.out]; exact Hle2.out⟩
        case measure => simp [intOf]; omega
      · obtain rfl : k = 100 := by omega
        have HI2 : Hid (isLong l = true) := by show _ = _; rw [HI.out, decide_eq_true (by omega : 60 < n)]; rfl
        generalize (cat (l.take 100)).length = q at *
        have h60i : (60 : Int) < (n : Int) := by omega
        clear HI
        go_wp2
        go_ret
        exact ⟨by rw [HI2.out]; rfl, rfl⟩
    · obtain rfl : k = n := by omega
      have e : l.take k = l := List.take_of_length_le (by rw [Hln.out]; exact Nat.le_refl _)
      have e1 : l.take 100 = l := List.take_of_length_le (by rw [Hln.out]; exact hk1)
      rw [e] at hle
      rw [e]
      rw [e1] at HI
      have hq : (cat l).length ≤ 14073748835532800 := by
        have : k * 140737488355328 ≤ 100 * 140737488355328 := Nat.mul_le_mul_right _ hk1
        omega
      clear e e1 hle
      generalize (cat l).length = q at *
      by_cases h60 : 60 < k
      · have HI2 : Hid (isLong l = true) := by show _ = _; rw [HI.out, decide_eq_true h60]; rfl
        have h60i : (60 : Int) < (k : Int) := by omega
        clear HI
        go_wp2
        go_ret
        exact ⟨by rw [HI2.out]; rfl, rfl⟩
      · have h60i : ¬ (60 : Int) < (k : Int) := by omega
        by_cases h81 : 8192 < q
        · have HI2 : Hid (isLong l = true) := by show _ = _; rw [HI.out, decide_eq_true h81]; simp
          have h81i : (8192 : Int) < (q : Int) := by omega
          clear HI
          go_wp2
          go_ret
          exact ⟨by rw [HI2.out]; rfl, rfl⟩
        · have HI2 : Hid (isLong l = false) := by show _ = _; rw [HI.out, decide_eq_false h60, decide_eq_false h81]; rfl
          have h81i : ¬ (8192 : Int) < (q : Int) := by omega
          clear HI
          go_wp2
          go_ret
          exact ⟨by rw [HI2.out]; rfl, rfl⟩

set_option maxHeartbeats 1000000 in
set_option maxRecDepth 100000 in
theorem all_any (A : Option Addr) (n c : Nat) (l : List ByteArray) (w : World) (hn : n ≤ 60) (hl : Strs w w.heap.size A n l) (hz : (cat l).length ≤ 8192) :
    Calls Tryd.prog 17 #[.slice A n c] w fun e w' => e = .returned (.string (bOf (cat l))) ∧ w' = w := by
  have HL := Lib.hid hl
  have Hln := Lib.hid hl.1
  clear hl
  go_enter Tryd.func17, Tryd.ntmps17
  go_wp2
  go_loop [3, 4] (fun v i => ∃ k : Nat, k ≤ n ∧ i = .int .i64 k ∧ v = .string (bOf (cat (l.take k)))) (fun _ i => n - (intOf i).toNat)
  case atStart => exact ⟨0, Nat.zero_le _, rfl, rfl⟩
  case round =>
    obtain ⟨k, hk, rfl, rfl⟩ := hrel
    by_cases hlt : k < n
    · obtain ⟨ad, t, rfl, hB, ht, htl, hc⟩ := HL.out.at_ hlt
      have HC : Hid (bOf (cat (l.take (k + 1))) = bOf (cat (l.take k)) ++ t) := by show _ = _; rw [cat_snoc l k t ht, append_bOf, toList_bOf]
      have hle := cat_at_le l k t ht
      have hqs : (bOf (cat (l.take k))).size = (cat (l.take k)).length := size_bOf _
      clear ht htl
      generalize bOf (cat (l.take k)) = Q at *
      generalize (cat (l.take k)).length = q at *
      have hQ : Q.size ≤ 8192 := by omega
      have hts : t.size ≤ 8192 := by omega
      clear hqs hle
      go_wp2
      go_round
      case rel => exact ⟨k + 1, by omega, by go_num, by rw [HC.out]⟩
      case measure => simp [intOf]; omega
    · obtain rfl : k = n := by omega
      have e : l.take k = l := List.take_of_length_le (by rw [Hln.out]; exact Nat.le_refl _)
      rw [e]
      go_wp2
      go_ret
      exact ⟨rfl, rfl⟩
end Go.Proofs.YtdpmndfoplndnaaDoor.Md5
