/- The digest of one text. -/
import Derived.Test.YtpfbknbloeilmaaDoorGMd5K
namespace Go.Proofs.YtpfbknbloeilmaaDoor.Md5
open Go.RowKit Go.Proofs.YtpfbknbloeilmaaDoor.Oct Go.Proofs.YtpfbknbloeilmaaDoor.Row Go.Proofs.YtpfbknbloeilmaaDoor.Mem

theorem one_strs {w : World} {b : Nat} {t : ByteArray} (hc : w.cell? ⟨b, 0, none⟩ = some (.string t)) (ht : t.size ≤ maxLen) : Strs w w.heap.size (some ⟨b, 0, none⟩) 1 [t] := by
  refine ⟨rfl, fun s hs => ?_, fun _ => ⟨_, rfl, World.block_lt_of_cell? w _ hc, fun j hj => ?_⟩⟩
  · rw [List.mem_singleton] at hs; subst hs; exact ht
  · obtain rfl : j = 0 := by simpa using hj
    rw [add_zero_at]
    exact hc
/-- The digest of one text. -/
theorem sum_one (b : Nat) (t : ByteArray) (w : World) (hc : w.cell? ⟨b, 0, none⟩ = some (.string t)) (ht : t.size ≤ 1000000) (hG : Globs w) :
    Calls Tryd.prog 11 #[.slice (some ⟨b, 0, none⟩) 1 1] w fun e w' => e = .returned (.string (bOf (md5 t.toList))) ∧ Below w.heap.size w w' := by
  have h := sum_any (some ⟨b, 0, none⟩) 1 1 [t] w (by unfold maxLen; omega) (one_strs hc (by unfold maxLen; omega)) hG (by rw [cat_one, ← size_toList]; exact ht)
  rw [cat_one] at h
  exact h
end Go.Proofs.YtpfbknbloeilmaaDoor.Md5
