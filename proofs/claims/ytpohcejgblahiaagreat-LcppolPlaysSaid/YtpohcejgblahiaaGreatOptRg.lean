/- OptRg: parted from XOptRf.lean.tpl. -/
import Derived.Test.YtpohcejgblahiaaGreatGOptRf
namespace Go.Proofs.YtpohcejgblahiaaGreat.Opt
open Go.RowKit Go.Proofs.YtpohcejgblahiaaGreat.Oct Go.Proofs.YtpohcejgblahiaaGreat.Row Go.Proofs.YtpohcejgblahiaaGreat.Mem
set_option maxHeartbeats 1000000 in
set_option maxRecDepth 100000 in
theorem rfind_any (t : UInt8) (l : List Opt) (B : Nat) (A : Option Addr) (n c : Nat) (w : World) (hl : Opts w B A n l) (hn : n ≤ maxLen) (hBw : B ≤ w.heap.size) :
    Calls Tryz.prog 84 #[.int .u8 t.toNat, .slice A n c] w fun e w' => e = .returned (.tuple #[.agg #[.int .u8 (fA t l).1.toNat, .string (fA t l).2], .bool (fB t l)]) ∧ Below w.heap.size w w' := by
  have Hn := Lib.hid hl.1
  have Hl := Lib.hid hl; clear hl
  unfold maxLen at hn
  obtain ⟨W, hW, HW⟩ : ∃ W, w.alloc (.cells #[.int .u8 0, .string ⟨#[]⟩] 51) = W ∧ Hid (At W w.heap.size (0, ⟨#[]⟩) ∧ Below w.heap.size w W) := ⟨_, rfl, at_new w 0 ⟨#[]⟩, (Below.refl w.heap.size w).alloc (Nat.le_refl _) _⟩
  have f0 := Blk.frozen HW.out.1 0
  have f1 := Blk.frozen HW.out.1 1
  have c0 : W.cell? ⟨w.heap.size, 0, none⟩ = some (.int .u8 0) := HW.out.1.c0
  have c1 : W.cell? ⟨w.heap.size, 1, none⟩ = some (.string ⟨#[]⟩) := HW.out.1.c1
  have HL := Lib.hid (Hl.out.below (HW.out.2.mono hBw))
  go_enter Tryz.func84, Tryz.ntmps84
  go_wp2
  clear hW
  generalize hg : w.heap.size = g at *
  have HG := Lib.hid hg
  clear hg
  go_loop [6] (fun i => ∃ k : Nat, k ≤ n ∧ i = .int .i64 k ∧ Hid (fd t (l.take k) = none)) (fun i => n - (intOf i).toNat)
  case atStart => exact ⟨0, Nat.zero_le _, rfl, rfl⟩
  case round =>
    obtain ⟨k, hk, rfl, HT⟩ := hrel
    by_cases hlt : k < n
    · obtain ⟨ad, o, rfl, hB, ho, hS1, hc0, hc1⟩ := HL.out.at_ hlt
      have hst := fd_take (t := t) ho HT.out
      by_cases e1 : o.1 = t
      · have HF := Lib.hid (fAB_some (hst.1 e1))
        have hx : ((o.1.toNat : Int) == (t.toNat : Int)) = true := by rw [e1]; simp
        clear hst ho e1
        go_wp2
        have HR := HW.out.1.set o
        have HBe := (HW.out.2.setCell (p := ⟨g, 0, none⟩) (Nat.le_refl _) (.int .u8 o.1.toNat)).setCell (p := ⟨g, 1, none⟩) (Nat.le_refl _) (.string o.2)
        (try simp only [Exit.inBlock, Exit.then])
        refine bodyPost_ret (results_row1 rfl _ _ g _ _ _ rfl HR Tryz.underlying51 rfl (by kernel_rfl)) rfl ?_
        rw [HF.out.1, HF.out.2]
        exact ⟨rfl, by rw [HG.out]; exact HBe⟩
      · have HT2 := Lib.hid (hst.2 e1)
        have hx := no_byte e1
        clear hst ho e1
        go_wp2
        go_round
        case rel => exact ⟨k + 1, by omega, by go_num, HT2⟩
        case measure => simp [intOf]; omega
    · obtain rfl : k = n := by omega
      have HF : Hid (fA t l = (0, ByteArray.empty) ∧ fB t l = false) := by
        have h := HT.out
        rw [List.take_of_length_le (by rw [Hn.out]; exact Nat.le_refl _)] at h
        exact fAB_none h
      go_wp2
      have HR := HW.out.1.set (0, ⟨#[]⟩)
      have HBe := (HW.out.2.setCell (p := ⟨g, 0, none⟩) (Nat.le_refl _) (.int .u8 0)).setCell (p := ⟨g, 1, none⟩) (Nat.le_refl _) (.string ⟨#[]⟩)
      (try simp only [Exit.inBlock, Exit.then])
      refine bodyPost_ret (results_row1 rfl _ _ g _ _ _ rfl HR Tryz.underlying51 rfl (by kernel_rfl)) rfl ?_
      rw [HF.out.1, HF.out.2]
      exact ⟨rfl, by rw [HG.out]; exact HBe⟩
end Go.Proofs.YtpohcejgblahiaaGreat.Opt
