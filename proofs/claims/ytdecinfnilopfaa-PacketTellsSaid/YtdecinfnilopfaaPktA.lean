/- Known and Trim of both; the length in a head; what is wrong. -/
import Derived.Test.YtdecinfnilopfaaProg
import Derived.Test.YtdecinfnilopfaaPktPure
import Derived.Test.YtdecinfnilopfaaBlk
import Derived.Test.YtdecinfnilopfaaGet16
import Derived.Test.YtdecinfnilopfaaPut16
namespace Go.Proofs.Ytdecinfnilopfaa.Pkt
open Go.RowKit Go.Proofs.Ytdecinfnilopfaa.Oct Go.Proofs.Ytdecinfnilopfaa.Row Go.Proofs.Ytdecinfnilopfaa.Mem

theorem known_z (p c : Nat) : known p c = ((((p : Int) == 49185) && (decide ((1 : Int) ≤ c) && decide ((c : Int) ≤ 11))) || (((p : Int) == 32801) && (decide ((1 : Int) ≤ c) && decide ((c : Int) ≤ 7)))) := by
  unfold known
  rw [Bool.eq_iff_iff]; simp; omega
set_option maxHeartbeats 400000 in
theorem known_any (p c : Nat) (w : World) :
    Calls Try.prog 14 #[.int .u16 p, .int .u8 c] w fun e w' => e = .returned (.bool (known p c)) ∧ w = w' := by
  have H := Lib.hid (known_z p c)
  rw [H.out]
  go_enter Try.func14, Try.ntmps14
  go_wp2
  all_goals (go_ret; exact ⟨by first | (simp_all; done) | (simp_all; omega), rfl⟩)
set_option maxHeartbeats 400000 in
theorem rknown_any (p c : Nat) (w : World) :
    Calls Try.prog 15 #[.int .u16 p, .int .u8 c] w fun e w' => e = .returned (.bool (known p c)) ∧ w = w' := by
  have H := Lib.hid (known_z p c)
  rw [H.out]
  go_enter Try.func15, Try.ntmps15
  go_wp2
  all_goals (go_ret; exact ⟨by first | (simp_all; done) | (simp_all; omega), rfl⟩)

/-- What Trim answers. -/
def tA (s : ByteArray) (n : Int) : ByteArray := if n < 0 then bOf [] else bOf (s.toList.take n.toNat)
def tE (n : Int) : Int := if n < 0 then 2 else 0
set_option maxHeartbeats 400000 in
theorem trim_any (s : ByteArray) (n : Int) (w : World) (hs : s.size ≤ maxLen) :
    Calls Try.prog 12 #[.string s, .int .i64 n] w fun e w' => e = .returned (.tuple #[.string (tA s n), .int .i64 (tE n)]) ∧ w = w' := by
  unfold maxLen at hs
  by_cases h0 : n < 0
  · have HA : Hid (tA s n = bOf [] ∧ tE n = 2) := by show _ ∧ _; simp [tA, tE, h0]
    rw [HA.out.1, HA.out.2]
    go_enter Try.func12, Try.ntmps12
    go_wp2
    go_ret2
    exact ⟨rfl, rfl⟩
  · have HA : Hid (tA s n = bOf (s.toList.take n.toNat) ∧ tE n = 0) := by show _ ∧ _; simp [tA, tE, h0]
    rw [HA.out.1, HA.out.2]
    by_cases h1 : n ≤ (s.size : Int)
    · have H1 := Lib.hid (extract_front s n.toNat)
      go_enter Try.func12, Try.ntmps12
      go_wp2
      go_ret2
      exact ⟨by rw [← H1.out]; rfl, rfl⟩
    · have H1 : Hid (s = bOf (s.toList.take n.toNat)) := by
        show _ = _
        rw [List.take_of_length_le (by rw [← size_toList]; omega), bOf_toList]
      go_enter Try.func12, Try.ntmps12
      go_wp2
      go_ret2
      exact ⟨by rw [← H1.out]; rfl, rfl⟩

set_option maxHeartbeats 400000 in
theorem rtrim_any (s : ByteArray) (n : Int) (w : World) (hs : s.size ≤ maxLen) :
    Calls Try.prog 13 #[.string s, .int .i64 n] w fun e w' => e = .returned (.tuple #[.string (tA s n), .int .i64 (tE n)]) ∧ w = w' := by
  unfold maxLen at hs
  by_cases h0 : n < 0
  · have HA : Hid (tA s n = bOf [] ∧ tE n = 2) := by show _ ∧ _; simp [tA, tE, h0]
    rw [HA.out.1, HA.out.2]
    go_enter Try.func13, Try.ntmps13
    go_wp2
    go_ret2
    exact ⟨rfl, rfl⟩
  · have HA : Hid (tA s n = bOf (s.toList.take n.toNat) ∧ tE n = 0) := by show _ ∧ _; simp [tA, tE, h0]
    rw [HA.out.1, HA.out.2]
    by_cases h1 : n ≤ (s.size : Int)
    · have H1 := Lib.hid (extract_front s n.toNat)
      go_enter Try.func13, Try.ntmps13
      go_wp2
      go_ret2
      exact ⟨by rw [← H1.out]; rfl, rfl⟩
    · have H1 : Hid (s = bOf (s.toList.take n.toNat)) := by
        show _ = _
        rw [List.take_of_length_le (by rw [← size_toList]; omega), bOf_toList]
      go_enter Try.func13, Try.ntmps13
      go_wp2
      go_ret2
      exact ⟨by rw [← H1.out]; rfl, rfl⟩

set_option maxHeartbeats 400000 in
theorem length_any (a b x y : UInt8) (w : World) :
    Calls Try.prog 17 #[.agg #[.int .u8 a.toNat, .int .u8 b.toNat, .int .u8 x.toNat, .int .u8 y.toNat]] w fun e w' => e = .returned (.int .i64 (val [x, y])) ∧ Below w.heap.size w w' := by
  have hB := blk_new w (bytesV [a, b, x, y]) 38
  have hcv := conv_blk (o := 2) (n := 2) (c := 2) Try.underlying39 Try.underlying5 Try.underlying9 hB (by simp)
  have G := Lib.hid (fun w => get16_v (bOf [x, y]) w (by unfold maxLen; rw [size_bOf]; simp))
  have hv : Oct.getV .u16 2 (bOf [x, y]) = .tuple #[.int .u16 (val [x, y]), .int .i64 0] := by
    unfold Oct.getV getN getE
    rw [size_bOf, if_neg (by simp), if_neg (by simp), if_neg (by simp), if_neg (by simp), toList_bOf]
  rw [hv] at G
  have hlt : val [x, y] < 65536 := Nat.lt_of_lt_of_le (val_lt [x, y]) (by simp)
  have h0 : (0 : Int) ≤ val [x, y] := by omega
  have h1 : (val [x, y] : Int) ≤ 65535 := by omega
  have HB := Lib.hid ((Below.refl w.heap.size w).alloc (Nat.le_refl _) (.cells (bytesV [a, b, x, y]).toArray 38))
  clear hv hB hlt
  generalize val [x, y] = n at *
  simp only [bytesV, List.map_cons, List.map_nil] at hcv HB
  go_enter Try.func17, Try.ntmps17
  go_wp2_with fail
  refine (G.out _).mono ?_
  rintro e w1 ⟨rfl, k, rfl⟩
  go_wp2
  go_ret
  exact ⟨rfl, HB.out.drewN' k⟩

/-- What is wrong with bytes of which so many were copied, that say so long, and are so many. -/
def wE (k n z : Nat) : Nat := if k < 4 then 6 else if n < 4 then 7 else if z < n then 6 else if 1500 < n then 5 else 0
set_option maxHeartbeats 400000 in
theorem wrong_any (b1 b2 b3 k n : Nat) (s : ByteArray) (w : World) (h1 : Boxed w b1 3 (.int .i64 k)) (h2 : Boxed w b2 3 (.int .i64 n)) (h3 : Boxed w b3 9 (.string s)) :
    Calls Try.prog 18 #[.pointer (some ⟨b1, 0, none⟩), .pointer (some ⟨b2, 0, none⟩), .pointer (some ⟨b3, 0, none⟩)] w fun e w' => e = .returned (.int .i64 (wE k n s.size)) ∧ w = w' := by
  have c1 := h1.cell
  have c2 := h2.cell
  have c3 := h3.cell
  clear h1 h2 h3
  unfold wE
  by_cases k0 : k < 4
  · rw [if_pos k0]
    go_enter Try.func18, Try.ntmps18
    go_wp2
    go_ret
    exact ⟨rfl, rfl⟩
  · rw [if_neg k0]
    by_cases k1 : n < 4
    · rw [if_pos k1]
      go_enter Try.func18, Try.ntmps18
      go_wp2
      go_ret
      exact ⟨rfl, rfl⟩
    · rw [if_neg k1]
      by_cases k2 : s.size < n
      · rw [if_pos k2]
        go_enter Try.func18, Try.ntmps18
        go_wp2
        go_ret
        exact ⟨rfl, rfl⟩
      · rw [if_neg k2]
        by_cases k3 : 1500 < n
        · rw [if_pos k3]
          go_enter Try.func18, Try.ntmps18
          go_wp2
          go_ret
          exact ⟨rfl, rfl⟩
        · rw [if_neg k3]
          go_enter Try.func18, Try.ntmps18
          go_wp2
          go_ret
          exact ⟨rfl, rfl⟩
end Go.Proofs.Ytdecinfnilopfaa.Pkt
