/- Contracts of the document's four, turned, mix, place, by. -/
import Derived.Test.YtipcmkcllibnfaaDoorMd5Pure
import Derived.Test.YtipcmkcllibnfaaDoorMoves
import Derived.IntWalk
namespace Go.Proofs.YtipcmkcllibnfaaDoor.Md5
open Go.RowKit Go.Proofs.YtipcmkcllibnfaaDoor.Oct Go.Proofs.YtipcmkcllibnfaaDoor.Row Go.Proofs.YtipcmkcllibnfaaDoor.Mem

theorem conv_new {P : Program} (w : World) (src dst e t : TypeId) (hs : P.underlying src = some (.slice e)) (he : P.underlying e = some (.int .u8)) (hd : P.underlying dst = some .string) (xs : List Int) (c : Nat) :
    (convert src dst (.slice (some ⟨w.heap.size, 0, none⟩) xs.length c)).run P (w.alloc (.cells (xs.map (Value.int .u8)).toArray t)) = .ok (.string (strOfNums xs)) (w.alloc (.cells (xs.map (Value.int .u8)).toArray t)) := by
  refine run_convert_bytes_arg _ src e hs he w.heap.size 0 xs.length c xs rfl (fun i hi => ?_) dst hd
  rw [Nat.zero_add, World.cell?_alloc_new]
  simp [List.getElem?_eq_getElem hi]

theorem nums_four (v : Nat) (h : v ≤ 4294967295) : strOfNums [(v : Int) % 256, (v : Int) / 256 % 256, (v : Int) / 65536 % 256, (v : Int) / 16777216] = bOf (le4 v) := by
  have e : (v : Int) / 16777216 = (v : Int) / 16777216 % 256 := by omega
  rw [nums_bOf, e]
  congr 1

set_option maxHeartbeats 400000 in
theorem four_any (x : Nat) (w : World) (hx : x ≤ 4294967295) :
    Calls Tryd.prog 46 #[.int .u32 x] w fun e w' => e = .returned (.string (bOf (le4 x))) ∧ Below w.heap.size w w' := by
  have HN := Lib.hid (nums_four x hx)
  have h0 : (0 : Int) ≤ x := by omega
  have h1 : (x : Int) ≤ 4294967295 := by omega
  have hcv := conv_new (P := Tryd.prog) w 39 9 5 5 (by kernel_rfl) (by kernel_rfl) (by kernel_rfl) [(x : Int) % 256, (x : Int) / 256 % 256, (x : Int) / 65536 % 256, (x : Int) / 16777216] 4
  simp only [List.length_cons, List.length_nil, List.map_cons, List.map_nil] at hcv
  go_enter Tryd.func46, Tryd.ntmps46
  go_wp2
  go_ret
  rw [HN.out]
  exact ⟨rfl, (Below.refl _ _).alloc (Nat.le_refl _) _⟩

theorem rotl_int (x n : Nat) (h : x ≤ 4294967295) (h1 : 1 ≤ n) (h2 : n ≤ 31) : ((x : Int) * 2 ^ n % 4294967296 + (x : Int) / 2 ^ (32 - n)) % 4294967296 = (rotl x n : Int) := by
  have hl := rotl_lt x n (by omega) h1 h2
  have e : ((x : Int) * 2 ^ n % 4294967296 + (x : Int) / 2 ^ (32 - n)) = (rotl x n : Int) := by
    unfold rotl; simp only [Int.natCast_add, Int.natCast_emod, Int.natCast_mul, Int.natCast_ediv, Int.natCast_pow]; rfl
  rw [e]; omega
set_option maxHeartbeats 400000 in
theorem turned_any (x n : Nat) (w : World) (hx : x ≤ 4294967295) (h1 : 1 ≤ n) (h2 : n ≤ 31) :
    Calls Tryd.prog 53 #[.int .u32 x, .int .i64 n] w fun e w' => e = .returned (.int .u32 (rotl x n)) ∧ w = w' := by
  have h3 : (0 : Int) ≤ x := by omega
  have h4 : (x : Int) ≤ 4294967295 := by omega
  have h5 : (1 : Int) ≤ n := by omega
  have h6 : (n : Int) ≤ 31 := by omega
  have HR := Lib.hid (rotl_int x n hx h1 h2)
  go_enter Tryd.func53, Tryd.ntmps53
  go_wp2
  go_ret
  exact ⟨congrArg (fun z => Ending.returned (Value.int .u32 z)) HR.out, rfl⟩

theorem xor_max (x : Nat) (h : x ≤ 4294967295) : bits .xor .u32 4294967295 (x : Int) = ((4294967295 - x : Nat) : Int) := by
  have h1 : x < 4294967296 := by omega
  rw [show (4294967295 : Int) = ((4294967295 : Nat) : Int) from rfl, u32_xor_nat _ _ (by omega) h1]
  congr 1
  have e : 4294967295 ^^^ x = (BitVec.allOnes 32 ^^^ BitVec.ofNat 32 x).toNat := by
    rw [BitVec.toNat_xor, BitVec.toNat_ofNat, Nat.mod_eq_of_lt (by omega)]; rfl
  rw [e, BitVec.allOnes_xor, BitVec.toNat_not, BitVec.toNat_ofNat, Nat.mod_eq_of_lt (by omega)]
theorem mix0 (b c d : Nat) (hb : b ≤ 4294967295) (hc : c ≤ 4294967295) (hd : d ≤ 4294967295) : bits .or .u32 (bits .and .u32 (b : Int) c) (bits .and .u32 (bits .xor .u32 4294967295 (b : Int)) d) = (mixf 0 b c d : Int) := by
  rw [xor_max b hb, u32_and_nat _ _ (by omega) (by omega), u32_and_nat _ _ (by omega) (by omega), u32_or_nat _ _ (Nat.and_lt_two_pow (n := 32) _ (by omega)) (Nat.and_lt_two_pow (n := 32) _ (by omega))]; rfl
theorem mix1 (b c d : Nat) (hb : b ≤ 4294967295) (hc : c ≤ 4294967295) (hd : d ≤ 4294967295) : bits .or .u32 (bits .and .u32 (b : Int) d) (bits .andNot .u32 (c : Int) d) = (mixf 1 b c d : Int) := by
  rw [u32_andNot_nat _ _ (by omega) (by omega), u32_and_nat _ _ (by omega) (by omega), u32_or_nat _ _ (Nat.and_lt_two_pow (n := 32) _ (by omega)) (Nat.and_lt_two_pow (n := 32) _ (by omega))]; rfl
theorem mix2 (b c d : Nat) (hb : b ≤ 4294967295) (hc : c ≤ 4294967295) (hd : d ≤ 4294967295) : bits .xor .u32 (bits .xor .u32 (b : Int) c) d = (mixf 2 b c d : Int) := by
  rw [u32_xor_nat _ _ (by omega) (by omega), u32_xor_nat _ _ (Nat.xor_lt_two_pow (n := 32) (by omega) (by omega)) (by omega)]; rfl
theorem mix3 (b c d : Nat) (hb : b ≤ 4294967295) (hc : c ≤ 4294967295) (hd : d ≤ 4294967295) : bits .xor .u32 (c : Int) (bits .or .u32 (b : Int) (bits .xor .u32 4294967295 (d : Int))) = (mixf 3 b c d : Int) := by
  rw [xor_max d hd, u32_or_nat _ _ (by omega) (by omega), u32_xor_nat _ _ (by omega) (Nat.or_lt_two_pow (n := 32) (by omega) (by omega))]; rfl

set_option maxHeartbeats 400000 in
theorem rmix_any (r b c d : Nat) (w : World) (hr : r ≤ 3) (hb : b ≤ 4294967295) (hc : c ≤ 4294967295) (hd : d ≤ 4294967295) :
    Calls Tryd.prog 54 #[.int .i64 r, .int .u32 b, .int .u32 c, .int .u32 d] w fun e w' => e = .returned (.int .u32 (mixf r b c d)) ∧ w = w' := by
  have H0 := Lib.hid (mix0 b c d hb hc hd)
  have H1 := Lib.hid (mix1 b c d hb hc hd)
  have H2 := Lib.hid (mix2 b c d hb hc hd)
  have H3 := Lib.hid (mix3 b c d hb hc hd)
  have h : r = 0 ∨ r = 1 ∨ r = 2 ∨ r = 3 := by omega
  clear hb hc hd hr
  rcases h with rfl | rfl | rfl | rfl
  · rw [← H0.out]
    go_enter Tryd.func54, Tryd.ntmps54
    go_wp2
    go_ret
    exact ⟨rfl, rfl⟩
  · rw [← H1.out]
    go_enter Tryd.func54, Tryd.ntmps54
    go_wp2
    go_ret
    exact ⟨rfl, rfl⟩
  · rw [← H2.out]
    go_enter Tryd.func54, Tryd.ntmps54
    go_wp2
    go_ret
    exact ⟨rfl, rfl⟩
  · rw [← H3.out]
    go_enter Tryd.func54, Tryd.ntmps54
    go_wp2
    go_ret
    exact ⟨rfl, rfl⟩

theorem place_0 (i : Nat) (h : i < 16) : place i = i := by unfold place; rw [show i / 16 = 0 by omega]; rfl
theorem place_1 (i : Nat) (h0 : 16 ≤ i) (h : i < 32) : place i = (5 * i + 1) % 16 := by unfold place; rw [show i / 16 = 1 by omega]; rfl
theorem place_2 (i : Nat) (h0 : 32 ≤ i) (h : i < 48) : place i = (3 * i + 5) % 16 := by unfold place; rw [show i / 16 = 2 by omega]; rfl
theorem place_3 (i : Nat) (h0 : 48 ≤ i) (h : i < 64) : place i = 7 * i % 16 := by unfold place; rw [show i / 16 = 3 by omega]; rfl
set_option maxHeartbeats 400000 in
theorem place_any (i : Nat) (w : World) (hi : i < 64) :
    Calls Tryd.prog 52 #[.int .i64 i] w fun e w' => e = .returned (.int .i64 (place i)) ∧ w = w' := by
  have h0 : (0 : Int) ≤ i := by omega
  have h1 : (i : Int) < 64 := by omega
  rcases (show i < 16 ∨ (16 ≤ i ∧ i < 32) ∨ (32 ≤ i ∧ i < 48) ∨ 48 ≤ i by omega) with h | h | h | h
  · rw [place_0 i h]
    have hq : (i : Int) / 16 = 0 := by omega
    go_enter Tryd.func52, Tryd.ntmps52
    go_wp2
    go_ret
    exact ⟨rfl, rfl⟩
  · rw [place_1 i h.1 h.2]
    have hq : (i : Int) / 16 = 1 := by omega
    go_enter Tryd.func52, Tryd.ntmps52
    go_wp2
    go_ret
    exact ⟨by simp, rfl⟩
  · rw [place_2 i h.1 h.2]
    have hq : (i : Int) / 16 = 2 := by omega
    go_enter Tryd.func52, Tryd.ntmps52
    go_wp2
    go_ret
    exact ⟨by simp, rfl⟩
  · rw [place_3 i h hi]
    have hq : (i : Int) / 16 = 3 := by omega
    go_enter Tryd.func52, Tryd.ntmps52
    go_wp2
    go_ret
    exact ⟨by simp, rfl⟩

theorem byCells_at (i : Nat) (h : i < 16) : ([Value.int IntKind.i64 7, Value.int IntKind.i64 12, Value.int IntKind.i64 17, Value.int IntKind.i64 22, Value.int IntKind.i64 5, Value.int IntKind.i64 9, Value.int IntKind.i64 14, Value.int IntKind.i64 20, Value.int IntKind.i64 4, Value.int IntKind.i64 11, Value.int IntKind.i64 16, Value.int IntKind.i64 23, Value.int IntKind.i64 6, Value.int IntKind.i64 10, Value.int IntKind.i64 15, Value.int IntKind.i64 21] : List Value)[i]? = some (.int .i64 (tt i)) := by
  rw [show ([Value.int IntKind.i64 7, Value.int IntKind.i64 12, Value.int IntKind.i64 17, Value.int IntKind.i64 22, Value.int IntKind.i64 5, Value.int IntKind.i64 9, Value.int IntKind.i64 14, Value.int IntKind.i64 20, Value.int IntKind.i64 4, Value.int IntKind.i64 11, Value.int IntKind.i64 16, Value.int IntKind.i64 23, Value.int IntKind.i64 6, Value.int IntKind.i64 10, Value.int IntKind.i64 15, Value.int IntKind.i64 21] : List Value) = tturns.map (fun n => Value.int .i64 (n : Nat)) from rfl]
  unfold tt
  rw [List.getElem?_map, List.getD_eq_getElem?_getD, List.getElem?_eq_getElem (show i < tturns.length from h)]
  rfl
set_option maxHeartbeats 400000 in
theorem rby_any (i : Nat) (w : World) (hi : i < 64) :
    Calls Tryd.prog 55 #[.int .i64 i] w fun e w' => e = .returned (.int .i64 (by_ i)) ∧ Below w.heap.size w w' := by
  have h0 : (0 : Int) ≤ i := by omega
  have h1 : (i : Int) < 64 := by omega
  have hq : (0 : Int) ≤ (i : Int) / 16 := by omega
  have hq2 : (i : Int) / 16 ≤ 3 := by omega
  have hr : (0 : Int) ≤ (i : Int) % 4 := by omega
  have hr2 : (i : Int) % 4 ≤ 3 := by omega
  have hc := byCells_at (4 * (i / 16) + i % 4) (by omega)
  go_enter Tryd.func55, Tryd.ntmps55
  go_wp2
  go_ret
  exact ⟨rfl, (Below.refl _ _).alloc (Nat.le_refl _) _⟩
end Go.Proofs.YtipcmkcllibnfaaDoor.Md5
