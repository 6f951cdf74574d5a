/- Md5Mx: parted from XMd5A.lean.tpl. -/
import Derived.Test.YtpfbknbloeilmaaDoorMd5Pure
import Derived.Test.YtpfbknbloeilmaaDoorGReads
import Derived.IntWalk
namespace Go.Proofs.YtpfbknbloeilmaaDoor.Md5
open Go.RowKit Go.Proofs.YtpfbknbloeilmaaDoor.Oct Go.Proofs.YtpfbknbloeilmaaDoor.Row Go.Proofs.YtpfbknbloeilmaaDoor.Mem
theorem conv_new {P : Program} (w : World) (src dst e t : TypeId) (hs : P.underlying src = some (.slice e)) (he : P.underlying e = some (.int .u8)) (hd : P.underlying dst = some .string) (xs : List Int) (c : Nat) :
    (convert src dst (.slice (some ⟨w.heap.size, 0, none⟩) xs.length c)).run P (w.alloc (.cells (xs.map (Value.int .u8)).toArray t)) = .ok (.string (strOfNums xs)) (w.alloc (.cells (xs.map (Value.int .u8)).toArray t)) := by
  refine run_convert_bytes_arg _ src e hs he w.heap.size 0 xs.length c xs rfl (fun i hi => ?_) dst hd
  rw [Nat.zero_add, World.cell?_alloc_new]
  simp [List.getElem?_eq_getElem hi]

theorem xor_max (x : Nat) (h : x ≤ 4294967295) : bits .xor .u32 4294967295 (x : Int) = ((4294967295 - x : Nat) : Int) := by
  have h1 : x < 4294967296 := by omega
  rw [show (4294967295 : Int) = ((4294967295 : Nat) : Int) from rfl, u32_xor_nat _ _ (by omega) h1]
  congr 1
  have e : 4294967295 ^^^ x = (BitVec.allOnes 32 ^^^ BitVec.ofNat 32 x).toNat := by
    rw [BitVec.toNat_xor, BitVec.toNat_ofNat, Nat.mod_eq_of_lt (by omega)]; rfl
  rw [e, BitVec.allOnes_xor, BitVec.toNat_not, BitVec.toNat_ofNat, Nat.mod_eq_of_lt (by omega)]
theorem mix0 (b c d : Nat) (hb : b ≤ 4294967295) (hc : c ≤ 4294967295) (hd : d ≤ 4294967295) : bits .or .u32 (bits .and .u32 (b : Int) c) (bits .and .u32 (bits .xor .u32 4294967295 (b : Int)) d) = (mixf 0 b c d : Int) := by
  rw [xor_max b hb, u32_and_nat _ _ (by omega) (by omega), u32_and_nat _ _ (by omega) (by omega), u32_or_nat _ _ (Nat.and_lt_two_pow (n := 32) _ (by omega)) (Nat.and_lt_two_pow (n := 32) _ (by omega))]; rfl
theorem mix1 (b c d : Nat) (hb : b ≤ 4294967295) (hc : c ≤ 4294967295) (hd : d ≤ 4294967295) : bits .or .u32 (bits .and .u32 (b : Int) d) (bits .andNot .u32 (c : Int) d) = (mixf 1 b c d : Int) := by
  rw [u32_andNot_nat _ _ (by omega) (by omega), u32_and_nat _ _ (by omega) (by omega), u32_or_nat _ _ (Nat.and_lt_two_pow (n := 32) _ (by omega)) (Nat.and_lt_two_pow (n := 32) _ (by omega))]; rfl
theorem mix2 (b c d : Nat) (hb : b ≤ 4294967295) (hc : c ≤ 4294967295) (hd : d ≤ 4294967295) : bits .xor .u32 (bits .xor .u32 (b : Int) c) d = (mixf 2 b c d : Int) := by
  rw [u32_xor_nat _ _ (by omega) (by omega), u32_xor_nat _ _ (Nat.xor_lt_two_pow (n := 32) (by omega) (by omega)) (by omega)]; rfl
theorem mix3 (b c d : Nat) (hb : b ≤ 4294967295) (hc : c ≤ 4294967295) (hd : d ≤ 4294967295) : bits .xor .u32 (c : Int) (bits .or .u32 (b : Int) (bits .xor .u32 4294967295 (d : Int))) = (mixf 3 b c d : Int) := by
  rw [xor_max d hd, u32_or_nat _ _ (by omega) (by omega), u32_xor_nat _ _ (by omega) (Nat.or_lt_two_pow (n := 32) (by omega) (by omega))]; rfl

theorem place_0 (i : Nat) (h : i < 16) : place i = i := by unfold place; rw [show i / 16 = 0 by omega]; rfl
theorem place_1 (i : Nat) (h0 : 16 ≤ i) (h : i < 32) : place i = (5 * i + 1) % 16 := by unfold place; rw [show i / 16 = 1 by omega]; rfl
theorem place_2 (i : Nat) (h0 : 32 ≤ i) (h : i < 48) : place i = (3 * i + 5) % 16 := by unfold place; rw [show i / 16 = 2 by omega]; rfl
theorem place_3 (i : Nat) (h0 : 48 ≤ i) (h : i < 64) : place i = 7 * i % 16 := by unfold place; rw [show i / 16 = 3 by omega]; rfl
def strLen : Value → Nat
  | .string s => s.size
  | _ => 0
end Go.Proofs.YtpfbknbloeilmaaDoor.Md5
