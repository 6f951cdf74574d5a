/- The document's Same of two rows of packets, and of two outcomes, that are alike. -/
import Derived.Test.YtpfbknbloeilmaaDoorGAthA
import Derived.Test.YtpfbknbloeilmaaDoorPktEq
import Derived.BigQuiet
namespace Go.Proofs.YtpfbknbloeilmaaDoor.Ath
open Go.RowKit Go.Proofs.YtpfbknbloeilmaaDoor.Oct Go.Proofs.YtpfbknbloeilmaaDoor.Row Go.Proofs.YtpfbknbloeilmaaDoor.Mem

set_option maxHeartbeats 4000000 in
set_option maxRecDepth 100000 in
theorem same17_yes (l : List Pk) (n : Nat) (A A' : Option Addr) (c c' : Nat) (w : World) (hn : l.length = n) (hl : n ≤ maxLen) (h : Pks w A l) (h' : Pks w A' l) :
    Calls Tryd.prog 22 #[.slice A n c, .slice A' n c'] w fun e w' => e = .returned (.bool true) ∧ ∃ k, w' = w.drewN k := by
  have H := Lib.hid h
  have H' := Lib.hid h'
  have Hn := Lib.hid hn
  unfold maxLen at hl
  clear h h' hn
  go_enter Tryd.func22, Tryd.ntmps22
  go_wp2
  go_loopw [5] (fun i wr => ∃ (k : Nat), k ≤ n ∧ i = .int .i64 k ∧ ∃ q, wr = w.drewN q) (fun i _ => n - (intOf i).toNat)
  case atStart => exact ⟨0, Nat.zero_le _, rfl, 0, rfl⟩
  case round =>
    obtain ⟨k, hk, rfl, q, rfl⟩ := hrel
    by_cases hlt : k < n
    · obtain ⟨ad, p, rfl, hp, c0, c1, c2⟩ := H.out.at_ (k := k) (by rw [Hn.out]; exact hlt)
      obtain ⟨ad', p', rfl, hp', c0', c1', c2'⟩ := H'.out.at_ (k := k) (by rw [Hn.out]; exact hlt)
      have e : p' = p := by rw [hp] at hp'; cases hp'; rfl
      subst e
      have hne := fun w => pk_neq (pk_same p'.c p'.i p'.d) w
      simp only [Bool.not_true] at hne
      clear hp hp'
      go_wp2
      go_quiet (fail)
      go_wp2
      go_roundw
      case rel => exact ⟨k + 1, by omega, by go_num, q + nq, rfl⟩
      case measure => simp [intOf]; omega
    · obtain rfl : k = n := by omega
      go_wp2
      go_ret
      exact ⟨rfl, q, rfl⟩
set_option maxHeartbeats 2000000 in
set_option maxRecDepth 100000 in
theorem same20_yes (o : Ot) (A A' : Option Addr) (c c' n : Nat) (w : World) (hn : o.pkts.length = n) (hl : n ≤ 1000) (h : Pks w A o.pkts) (h' : Pks w A' o.pkts) :
    Calls Tryd.prog 20 #[.agg #[.slice A n c, .bool o.done, .bool o.failed, .string o.name], .agg #[.slice A' n c', .bool o.done, .bool o.failed, .string o.name]] w fun e w' => e = .returned (.bool true) ∧ Below w.heap.size w w' := by
  have s1 : (w.alloc (.cells #[.slice A n c, .bool o.done, .bool o.failed, .string o.name] 39)).heap.size = w.heap.size + 1 := World.size_alloc _ _
  obtain ⟨W, hW⟩ : ∃ W, (w.alloc (.cells #[.slice A n c, .bool o.done, .bool o.failed, .string o.name] 39)).alloc (.cells #[.slice A' n c', .bool o.done, .bool o.failed, .string o.name] 39) = W := ⟨_, rfl⟩
  have HB : Hid (Below w.heap.size w W) := by rw [← hW]; exact ((Below.refl _ w).alloc (Nat.le_refl _) _).alloc (by rw [s1]; exact Nat.le_succ _) _
  have b1 : Blk W w.heap.size [.slice A n c, .bool o.done, .bool o.failed, .string o.name] 39 := by rw [← hW]; exact (blk_new w [.slice A n c, .bool o.done, .bool o.failed, .string o.name] 39).alloc _
  have b2 : Blk W (w.heap.size + 1) [.slice A' n c', .bool o.done, .bool o.failed, .string o.name] 39 := by
    have := blk_new (w.alloc (.cells #[.slice A n c, .bool o.done, .bool o.failed, .string o.name] 39)) [.slice A' n c', .bool o.done, .bool o.failed, .string o.name] 39
    rw [s1] at this
    rw [← hW]; exact this
  have x0 := b1.at_ 0
  have y0 := b2.at_ 0
  have x1 := b1.at_ 1
  have y1 := b2.at_ 1
  have x2 := b1.at_ 2
  have y2 := b2.at_ 2
  have x3 := b1.at_ 3
  have y3 := b2.at_ 3
  simp only [List.getElem?_cons_zero, List.getElem?_cons_succ] at x0 x1 x2 x3 y0 y1 y2 y3
  have HS := Lib.hid (same17_yes o.pkts n A A' c c' W hn (by unfold maxLen; omega) (h.below HB.out) (h'.below HB.out))
  have k1 : (o.done == o.done) = true := by simp
  have k2 : (o.failed == o.failed) = true := by simp
  have k3 : (o.name.toList == o.name.toList) = true := by simp
  generalize o.done = d at *
  generalize o.failed = f at *
  generalize o.name = nm at *
  clear b1 b2 h h' hn s1
  go_enter Tryd.func20, Tryd.ntmps20
  go_wp2_with fail
  refine HS.out.mono ?_
  rintro e w1 ⟨rfl, k, rfl⟩
  go_wp2
  go_ret
  exact ⟨rfl, HB.out.drewN' k⟩
end Go.Proofs.YtpfbknbloeilmaaDoor.Ath
