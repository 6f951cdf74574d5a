/- Contract of the document's Put. -/
import Derived.Test.YtfcndljbijcbkaaPktB
namespace Go.Proofs.Ytfcndljbijcbkaa.Pkt
open Go.RowKit Go.Proofs.Ytfcndljbijcbkaa.Oct Go.Proofs.Ytfcndljbijcbkaa.Row Go.Proofs.Ytfcndljbijcbkaa.Mem

set_option maxHeartbeats 400000 in
theorem rput_long (c i : UInt8) (s : ByteArray) (w : World) (hl : 1496 < s.size) :
    Calls Try.prog 23 #[.agg #[.int .u8 c.toNat, .int .u8 i.toNat, .string s]] w fun e w' => e = .returned (.tuple #[.string (bOf []), .int .i64 5]) ∧ Below w.heap.size w w' := by
  have hb := (Below.refl w.heap.size w).alloc (Nat.le_refl _) (.cells #[.int .u8 c.toNat, .int .u8 i.toNat, .string s] 23)
  have HB := Lib.hid hb; clear hb
  have h1 : (1496 : Int) < s.size := by omega
  go_enter Try.func23, Try.ntmps23
  go_wp2
  go_ret2
  exact ⟨rfl, HB.out⟩

set_option maxHeartbeats 1000000 in
set_option maxRecDepth 100000 in
theorem rput_ok (c i : UInt8) (s : ByteArray) (w : World) (hl : s.size ≤ 1496) :
    Calls Try.prog 23 #[.agg #[.int .u8 c.toNat, .int .u8 i.toNat, .string s]] w fun e w' => e = .returned (.tuple #[.string (bOf (enc c i s.toList)), .int .i64 0]) ∧ Below w.heap.size w w' := by
  have hb := ((Below.refl w.heap.size w).alloc (Nat.le_refl _) (.cells #[.int .u8 c.toNat, .int .u8 i.toNat, .string s] 23)).alloc (by rw [World.size_alloc]; exact Nat.le_succ _) (.cells #[.int .u8 c.toNat, .int .u8 i.toNat, .int .u8 ((4 + (s.size : Int)) / 256), .int .u8 ((4 + (s.size : Int)) % 256)] 5)
  have HB := Lib.hid hb; clear hb
  have hcv := conv_new (P := Try.prog) (w.alloc (.cells #[.int .u8 c.toNat, .int .u8 i.toNat, .string s] 23)) 47 9 5 5 Try.underlying47 Try.underlying5 Try.underlying9 [(c.toNat : Int), (i.toNat : Int), (4 + (s.size : Int)) / 256, (4 + (s.size : Int)) % 256] 4
  rw [World.size_alloc] at hcv
  simp only [List.length_cons, List.length_nil, List.map_cons, List.map_nil] at hcv
  have hx : strOfNums [(c.toNat : Int), (i.toNat : Int), (4 + (s.size : Int)) / 256, (4 + (s.size : Int)) % 256] = bOf (c :: i :: numS (4 + s.size) 2) := by
    rw [nums_bOf, numS_two]
    simp only [List.map_cons, List.map_nil, Int.toNat_natCast, UInt8.ofNat_toNat]
    congr 5
    · congr 1; omega
  rw [hx] at hcv
  have HE : Hid (bOf (c :: i :: numS (4 + s.size) 2) ++ s = bOf (enc c i s.toList)) := by
    show _ = _
    rw [append_bOf, toList_bOf, enc, ← size_toList]; rfl
  have hqz : ((bOf (c :: i :: numS (4 + s.size) 2)).size : Int) = 4 := by rw [size_bOf]; simp [numS_length]
  clear hx
  generalize bOf (c :: i :: numS (4 + s.size) 2) = q at *
  have h1 : (s.size : Int) ≤ 1496 := by omega
  go_enter Try.func23, Try.ntmps23
  go_wp2
  rw [HE.out]
  go_ret2
  exact ⟨rfl, HB.out⟩

theorem rput_any (c i : UInt8) (s : ByteArray) (w : World) :
    Calls Try.prog 23 #[.agg #[.int .u8 c.toNat, .int .u8 i.toNat, .string s]] w fun e w' => e = .returned (.tuple #[.string (bOf (pA c i s.toList)), .int .i64 (pE s.toList)]) ∧ Below w.heap.size w w' := by
  unfold pA pE
  rw [← size_toList]
  by_cases h : 1496 < s.size
  · rw [if_pos h, if_pos h]; exact rput_long c i s w h
  · rw [if_neg h, if_neg h]; exact rput_ok c i s w (by omega)
end Go.Proofs.Ytfcndljbijcbkaa.Pkt
