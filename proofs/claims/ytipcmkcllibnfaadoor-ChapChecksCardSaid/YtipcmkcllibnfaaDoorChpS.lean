/- The digest of a byte, and two texts, that lie in blocks that are new. -/
import Derived.Test.YtipcmkcllibnfaaDoorChpB
namespace Go.Proofs.YtipcmkcllibnfaaDoor.Chp
open Go.RowKit Go.Proofs.YtipcmkcllibnfaaDoor.Oct Go.Proofs.YtipcmkcllibnfaaDoor.Row Go.Proofs.YtipcmkcllibnfaaDoor.Mem Go.Proofs.YtipcmkcllibnfaaDoor.Md5

theorem proof_sum (i : UInt8) (s v : ByteArray) (w : World) (hs : s.size ≤ 8192) (hv : v.size ≤ 8192) (hG : Globs ((w.alloc (.cells #[.int .u8 i.toNat] 5)).alloc (.cells #[.string (bOf [i]), .string s, .string v] 9))) :
    Calls Tryd.prog 20 #[.slice (some ⟨w.heap.size + 1, 0, none⟩) 3 3] ((w.alloc (.cells #[.int .u8 i.toNat] 5)).alloc (.cells #[.string (bOf [i]), .string s, .string v] 9)) fun e w' => e = .returned (.string (dg i s v)) ∧ Below ((w.alloc (.cells #[.int .u8 i.toNat] 5)).alloc (.cells #[.string (bOf [i]), .string s, .string v] 9)).heap.size ((w.alloc (.cells #[.int .u8 i.toNat] 5)).alloc (.cells #[.string (bOf [i]), .string s, .string v] 9)) w' := by
  have h := sum_any (some ⟨(w.alloc (.cells #[.int .u8 i.toNat] 5)).heap.size, 0, none⟩) 3 3 [bOf [i], s, v] ((w.alloc (.cells #[.int .u8 i.toNat] 5)).alloc (.cells #[.string (bOf [i]), .string s, .string v] 9)) (by unfold maxLen; omega)
    (strs_three_new _ _ _ _ _ (by rw [size_bOf]; unfold maxLen; simp) (by unfold maxLen; omega) (by unfold maxLen; omega)) hG (by simp [cat, toList_bOf]; rw [← size_toList, ← size_toList]; omega)
  rw [cat_three, World.size_alloc] at h
  exact h
end Go.Proofs.YtipcmkcllibnfaaDoor.Chp
