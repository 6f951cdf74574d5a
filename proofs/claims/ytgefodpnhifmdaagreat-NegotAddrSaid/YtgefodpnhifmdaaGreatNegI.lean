/- Rows of packets that are read; the document's Same; an append of a row. -/
import Derived.Test.YtgefodpnhifmdaaGreatGNegA
import Derived.Test.YtgefodpnhifmdaaGreatPktEq
import Derived.BigQuiet
import Derived.Laws.AppendOwnNone
namespace Go.Proofs.YtgefodpnhifmdaaGreat.Neg
open Go.RowKit Go.Deep Go.Proofs.YtgefodpnhifmdaaGreat.Oct Go.Proofs.YtgefodpnhifmdaaGreat.Row Go.Proofs.YtgefodpnhifmdaaGreat.Mem Go.Proofs.YtgefodpnhifmdaaGreat.Opt

/-! ### Same -/
set_option maxHeartbeats 2000000 in
set_option maxRecDepth 100000 in
theorem same_yes (l : List Pk) (A A' : Option Addr) (c c' : Nat) (T P : Int) (b : Bool) (w : World) (hl : l.length ≤ maxLen) (h : Pks w A l) (h' : Pks w A' l) :
    Calls Tryz.prog 14 #[.agg #[.slice A l.length c, .int .u16 T, .int .u16 P, .bool b], .agg #[.slice A' l.length c', .int .u16 T, .int .u16 P, .bool b]] w fun e w' => e = .returned (.bool true) ∧ Below w.heap.size w w' := by
  obtain ⟨W, hW, HW⟩ : ∃ W, (w.alloc (.cells #[.slice A l.length c, .int .u16 T, .int .u16 P, .bool b] 46)).alloc (.cells #[.slice A' l.length c', .int .u16 T, .int .u16 P, .bool b] 46) = W ∧
      Hid (Blk W w.heap.size [.slice A l.length c, .int .u16 T, .int .u16 P, .bool b] 46 ∧ Blk W (w.heap.size + 1) [.slice A' l.length c', .int .u16 T, .int .u16 P, .bool b] 46 ∧ Below w.heap.size w W) := by
    refine ⟨_, rfl, (blk_new w [.slice A l.length c, .int .u16 T, .int .u16 P, .bool b] _).alloc _, ?_, ((Below.refl w.heap.size w).alloc (Nat.le_refl _) _).alloc (by rw [World.size_alloc]; exact Nat.le_succ _) _⟩
    have := blk_new (w.alloc (.cells #[.slice A l.length c, .int .u16 T, .int .u16 P, .bool b] 46)) [.slice A' l.length c', .int .u16 T, .int .u16 P, .bool b] 46
    rw [World.size_alloc] at this
    exact this
  have H := Lib.hid (h.below HW.out.2.2)
  have H' := Lib.hid (h'.below HW.out.2.2)
  have HB := Lib.hid HW.out.2.2
  have a0 : W.cell? ⟨w.heap.size, 0, none⟩ = some (.slice A l.length c) := HW.out.1.at_ 0
  have a1 : W.cell? ⟨w.heap.size, 1, none⟩ = some (.int .u16 T) := HW.out.1.at_ 1
  have a2 : W.cell? ⟨w.heap.size, 2, none⟩ = some (.int .u16 P) := HW.out.1.at_ 2
  have a3 : W.cell? ⟨w.heap.size, 3, none⟩ = some (.bool b) := HW.out.1.at_ 3
  have b0 : W.cell? ⟨w.heap.size + 1, 0, none⟩ = some (.slice A' l.length c') := HW.out.2.1.at_ 0
  have b1 : W.cell? ⟨w.heap.size + 1, 1, none⟩ = some (.int .u16 T) := HW.out.2.1.at_ 1
  have b2 : W.cell? ⟨w.heap.size + 1, 2, none⟩ = some (.int .u16 P) := HW.out.2.1.at_ 2
  have b3 : W.cell? ⟨w.heap.size + 1, 3, none⟩ = some (.bool b) := HW.out.2.1.at_ 3
  have e1 : ((T : Int) != T) = false := by simp
  have e2 : ((P : Int) != P) = false := by simp
  have e3 : (b != b) = false := by simp
  have e4 : ((l.length : Int) != l.length) = false := by simp
  have hl2 := hl
  unfold maxLen at hl2
  obtain ⟨n, hn⟩ : ∃ n, l.length = n := ⟨_, rfl⟩
  have Hn := Lib.hid hn
  rw [hn] at a0 b0 e4 hl2
  have HWd := Lib.hid HW.out
  rw [hn] at HWd
  simp only [hn] at hW ⊢
  clear h h' hl HW hn
  go_enter Tryz.func14, Tryz.ntmps14
  go_wp2
  go_loopw [5] (fun i wr => ∃ (k : Nat), k ≤ n ∧ i = .int .i64 k ∧ Hid ((∀ p, wr.cell? p = W.cell? p) ∧ Below w.heap.size w wr)) (fun i _ => n - (intOf i).toNat)
  case atStart => exact ⟨0, Nat.zero_le _, rfl, ⟨fun _ => rfl, HB.out⟩⟩
  case round =>
    obtain ⟨k, hk, rfl, HWr⟩ := hrel
    have x0 : wr.cell? ⟨w.heap.size, 0, none⟩ = some (.slice A n c) := (HWr.out.1 _).trans a0
    have x1 : wr.cell? ⟨w.heap.size + 1, 0, none⟩ = some (.slice A' n c') := (HWr.out.1 _).trans b0
    by_cases hlt : k < n
    · obtain ⟨ad, p, rfl, hp, c0, c1, c2⟩ := H.out.at_ (k := k) (by rw [Hn.out]; exact hlt)
      obtain ⟨ad', p', rfl, hp', c0', c1', c2'⟩ := H'.out.at_ (k := k) (by rw [Hn.out]; exact hlt)
      have e : p' = p := by rw [hp] at hp'; cases hp'; rfl
      subst e
      have q0 : wr.cell? (ad.add (k * 3)) = some (.int .u8 p'.c.toNat) := (HWr.out.1 _).trans c0
      have q1 : wr.cell? ⟨(ad.add (k * 3)).block, (ad.add (k * 3)).off + 1, none⟩ = some (.int .u8 p'.i.toNat) := (HWr.out.1 _).trans c1
      have q2 : wr.cell? ⟨(ad.add (k * 3)).block, (ad.add (k * 3)).off + 2, none⟩ = some (.string p'.d) := (HWr.out.1 _).trans c2
      have q0' : wr.cell? (ad'.add (k * 3)) = some (.int .u8 p'.c.toNat) := (HWr.out.1 _).trans c0'
      have q1' : wr.cell? ⟨(ad'.add (k * 3)).block, (ad'.add (k * 3)).off + 1, none⟩ = some (.int .u8 p'.i.toNat) := (HWr.out.1 _).trans c1'
      have q2' : wr.cell? ⟨(ad'.add (k * 3)).block, (ad'.add (k * 3)).off + 2, none⟩ = some (.string p'.d) := (HWr.out.1 _).trans c2'
      have hne := fun w => pk_neq (pk_same p'.c p'.i p'.d) w
      simp only [Bool.not_true] at hne
      clear c0 c1 c2 c0' c1' c2' hp hp' a0 b0 a1 a2 a3 b1 b2 b3
      go_wp2
      go_quiet (fail)
      go_wp2
      go_roundw
      case rel => exact ⟨k + 1, by omega, by go_num, ⟨fun p => HWr.out.1 p, HWr.out.2.drewN' _⟩⟩
      case measure => simp [intOf]; omega
    · obtain rfl : k = n := by omega
      go_wp2
      go_ret
      exact ⟨rfl, HWr.out.2⟩
end Go.Proofs.YtgefodpnhifmdaaGreat.Neg
