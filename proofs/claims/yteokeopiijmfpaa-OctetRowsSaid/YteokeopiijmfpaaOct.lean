/- Contracts of package octet's functions of numbers, and of the document's answers to them. -/
import Derived.Test.YteokeopiijmfpaaProg
import Derived.Test.YteokeopiijmfpaaPure
import Derived.WalkKit
import Derived.WalkSpells
import Derived.WalkLawsBesides
import Derived.RegionTactic
import Derived.ChangeAlike
import Derived.Deep.QuietTactic
import Derived.Deep.Quiet
import Derived.BigQuiet
import Derived.Lib.Hide
import Derived.Laws.BytesArg
namespace Go.Proofs.Yteokeopiijmfpaa.Oct
open Go.RowKit

theorem conv_new {P : Program} (w : World) (src dst e t : TypeId) (hs : P.underlying src = some (.slice e)) (he : P.underlying e = some (.int .u8)) (hd : P.underlying dst = some .string) (xs : List Int) (c : Nat) :
    (convert src dst (.slice (some ⟨w.heap.size, 0, none⟩) xs.length c)).run P (w.alloc (.cells (xs.map (Value.int .u8)).toArray t)) = .ok (.string (strOfNums xs)) (w.alloc (.cells (xs.map (Value.int .u8)).toArray t)) := by
  refine run_convert_bytes_arg _ src e hs he w.heap.size 0 xs.length c xs rfl (fun i hi => ?_) dst hd
  rw [Nat.zero_add, World.cell?_alloc_new]
  simp [List.getElem?_eq_getElem hi]

set_option maxHeartbeats 400000 in
theorem has_any (s : ByteArray) (n : Int) (w : World) :
    Calls Try.prog 26 #[.string s, .int .i64 n] w fun e w' => e = .returned (.int .i64 (if (s.size : Int) < n then 6 else if n < s.size then 7 else 0)) ∧ w = w' := by
  by_cases h0 : (s.size : Int) < n
  · go_enter Try.func26, Try.ntmps26
    go_wp2
    go_ret
    exact ⟨by simp, rfl⟩
  · by_cases h1 : n < (s.size : Int)
    · go_enter Try.func26, Try.ntmps26
      go_wp2
      go_ret
      exact ⟨by simp, rfl⟩
    · go_enter Try.func26, Try.ntmps26
      go_wp2
      go_ret
      exact ⟨by simp, rfl⟩

/-- What Get16 and Get32 answer. -/
def getE (n : Nat) (s : ByteArray) : Int := if s.size < n then 6 else if n < s.size then 7 else 0
def getN (n : Nat) (s : ByteArray) : Nat := if s.size < n then 0 else if n < s.size then 0 else val s.toList
def getV (k : IntKind) (n : Nat) (s : ByteArray) : Value := .tuple #[.int k (getN n s), .int .i64 (getE n s)]

set_option maxHeartbeats 400000 in
theorem get16_v (s : ByteArray) (w : World) (hs : s.size ≤ maxLen) :
    Calls Try.prog 8 #[.string s] w fun e w' => e = .returned (getV .u16 2 s) ∧ ∃ k, w' = w.drewN k := by
  unfold maxLen at hs
  rcases Nat.lt_trichotomy s.size 2 with h | h | h
  · have hv : getV .u16 2 s = .tuple #[.int .u16 0, .int .i64 6] := by simp [getV, getN, getE, h]
    rw [hv]; clear hv
    go_enter Try.func8, Try.ntmps8
    go_wp2
    go_ret2
    exact ⟨rfl, 0, rfl⟩
  · have hv : getV .u16 2 s = .tuple #[.int .u16 (val s.toList), .int .i64 0] := by simp [getV, getN, getE, h]
    rw [hv]; clear hv
    have h0 : 0 < s.size := by omega
    have h1 : (1 : Int) < s.size := by omega
    have h5 : s.size < 3 := by omega
    have Hh := Lib.hid h; clear h
    go_enter Try.func8, Try.ntmps8
    go_wp2
    go_quiet (fail)
    go_wp2
    go_ret2
    refine ⟨?_, nq, rfl⟩
    rw [or16, val_two s Hh.out]
    rfl
  · have hv : getV .u16 2 s = .tuple #[.int .u16 0, .int .i64 7] := by
      unfold getV getN getE; rw [if_neg (by omega), if_pos h, if_neg (by omega), if_pos h]; rfl
    rw [hv]; clear hv
    go_enter Try.func8, Try.ntmps8
    go_wp2
    go_ret2
    exact ⟨rfl, 0, rfl⟩

theorem get16_any (s : ByteArray) (w : World) (hs : s.size ≤ maxLen) :
    Calls Try.prog 8 #[.string s] w fun e w' => e = .returned (.tuple #[.int .u16 (getN 2 s), .int .i64 (getE 2 s)]) ∧ ∃ k, w' = w.drewN k := get16_v s w hs

set_option maxHeartbeats 400000 in
theorem get32_v (s : ByteArray) (w : World) (hs : s.size ≤ maxLen) :
    Calls Try.prog 10 #[.string s] w fun e w' => e = .returned (getV .u32 4 s) ∧ ∃ k, w' = w.drewN k := by
  unfold maxLen at hs
  rcases Nat.lt_trichotomy s.size 4 with h | h | h
  · have hv : getV .u32 4 s = .tuple #[.int .u32 0, .int .i64 6] := by simp [getV, getN, getE, h]
    rw [hv]; clear hv
    go_enter Try.func10, Try.ntmps10
    go_wp2
    go_ret2
    exact ⟨rfl, 0, rfl⟩
  · have hv : getV .u32 4 s = .tuple #[.int .u32 (val s.toList), .int .i64 0] := by simp [getV, getN, getE, h]
    rw [hv]; clear hv
    have h0 : 0 < s.size := by omega
    have h1 : (1 : Int) < s.size := by omega
    have h2 : (2 : Int) < s.size := by omega
    have h3 : (3 : Int) < s.size := by omega
    have h5 : s.size < 5 := by omega
    have Hh := Lib.hid h; clear h
    go_enter Try.func10, Try.ntmps10
    go_wp2
    go_quiet (fail)
    go_wp2
    go_ret2
    refine ⟨?_, nq, rfl⟩
    rw [or32, val_four s Hh.out]
    rfl
  · have hv : getV .u32 4 s = .tuple #[.int .u32 0, .int .i64 7] := by
      unfold getV getN getE; rw [if_neg (by omega), if_pos h, if_neg (by omega), if_pos h]; rfl
    rw [hv]; clear hv
    go_enter Try.func10, Try.ntmps10
    go_wp2
    go_ret2
    exact ⟨rfl, 0, rfl⟩

theorem get32_any (s : ByteArray) (w : World) (hs : s.size ≤ maxLen) :
    Calls Try.prog 10 #[.string s] w fun e w' => e = .returned (.tuple #[.int .u32 (getN 4 s), .int .i64 (getE 4 s)]) ∧ ∃ k, w' = w.drewN k := get32_v s w hs

set_option maxHeartbeats 400000 in
theorem put16_any (v : Nat) (w : World) (h2 : v < 65536) :
    Calls Try.prog 11 #[.int .u16 v] w fun e w' => e = .returned (.string (bOf (numS v 2))) ∧ Below w.heap.size w w' := by
  have hv : bOf (numS v 2) = strOfNums [(v : Int) / 256, (v : Int) % 256] := by
    rw [nums_bOf, numS_two]
    congr 1
    simp only [List.map_cons, List.map_nil]
    congr 1
    · congr 1; omega
  have H := Lib.hid hv; clear hv
  have hcv := conv_new (P := Try.prog) w 56 9 5 55 (by kernel_rfl) (by kernel_rfl) (by kernel_rfl) [(v : Int) / 256, (v : Int) % 256] 2
  simp only [List.length_cons, List.length_nil, List.map_cons, List.map_nil] at hcv
  have h1 : (0 : Int) ≤ v := by omega
  have h3 : (v : Int) < 65536 := by omega
  rw [H.out]
  go_enter Try.func11, Try.ntmps11
  go_wp2
  go_ret
  exact ⟨rfl, (Below.refl _ _).alloc (Nat.le_refl _) _⟩

set_option maxHeartbeats 400000 in
theorem put32_any (v : Nat) (w : World) (h2 : v < 4294967296) :
    Calls Try.prog 13 #[.int .u32 v] w fun e w' => e = .returned (.string (bOf (numS v 4))) ∧ Below w.heap.size w w' := by
  have hv : bOf (numS v 4) = strOfNums [(v : Int) / 16777216, (v : Int) / 65536 % 256, (v : Int) / 256 % 256, (v : Int) % 256] := by
    rw [nums_bOf, numS_four]
    congr 1
    simp only [List.map_cons, List.map_nil]
    congr 1
    · congr 1; omega
  have H := Lib.hid hv; clear hv
  have hcv := conv_new (P := Try.prog) w 56 9 5 57 (by kernel_rfl) (by kernel_rfl) (by kernel_rfl) [(v : Int) / 16777216, (v : Int) / 65536 % 256, (v : Int) / 256 % 256, (v : Int) % 256] 4
  simp only [List.length_cons, List.length_nil, List.map_cons, List.map_nil] at hcv
  have h1 : (0 : Int) ≤ v := by omega
  have h3 : (v : Int) < 4294967296 := by omega
  rw [H.out]
  go_enter Try.func13, Try.ntmps13
  go_wp2
  go_ret
  exact ⟨rfl, (Below.refl _ _).alloc (Nat.le_refl _) _⟩
end Go.Proofs.Yteokeopiijmfpaa.Oct
