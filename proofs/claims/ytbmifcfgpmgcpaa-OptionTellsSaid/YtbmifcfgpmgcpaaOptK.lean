/- What the laws of options ask of the contracts, row by row. -/
import Derived.Test.YtbmifcfgpmgcpaaOptJ
import Derived.Test.YtbmifcfgpmgcpaaOptsApp
namespace Go.Proofs.Ytbmifcfgpmgcpaa.Opt
open Go.RowKit Go.Proofs.Ytbmifcfgpmgcpaa.Oct Go.Proofs.Ytbmifcfgpmgcpaa.Row Go.Proofs.Ytbmifcfgpmgcpaa.Mem

theorem beq_self (s : ByteArray) : (s.toList == s.toList) = true := by simp
/-- A row that is put. -/
theorem put_row (l : List Opt) (A : Option Addr) (n c : Nat) (w : World) (hl : Opts w w.heap.size A n l) (hn : n ≤ maxLen) :
    Calls Try.prog 9 #[.slice A n c] w fun e w' => e = .returned (.tuple #[.string (bOf (pA l)), .int .i64 (pE l)]) ∧ Below w.heap.size w w' := put_any l _ A n c w hl hn (Nat.le_refl _)
/-- A row that is put is got. -/
theorem get_row (l : List Opt) (h : pE l = 0) (w : World) :
    Calls Try.prog 11 #[.string (bOf (pA l))] w fun e w' => ∃ A c, e = .returned (.tuple #[.slice A l.length c, .int .i64 (bOf (pA l)).size, .int .i64 0]) ∧ Opts w' w'.heap.size A l.length l ∧ Below w.heap.size w w' :=
  (get_any (bOf (pA l)) w).mono fun e w' hq => getQ_is (L := l) (N := (bOf (pA l)).size) (E := 0) (by rw [toList_bOf, size_bOf]; exact got_enc h) hq
theorem get_yes (s : ByteArray) (h : gE s.toList = 0) (w : World) :
    Calls Try.prog 11 #[.string s] w fun e w' => ∃ A c, e = .returned (.tuple #[.slice A (gL s.toList).length c, .int .i64 s.size, .int .i64 0]) ∧ Opts w' w'.heap.size A (gL s.toList).length (gL s.toList) ∧ Below w.heap.size w w' :=
  (get_any s w).mono fun e w' hq => getQ_is (L := gL s.toList) (N := s.size) (E := 0) (by rw [size_toList]; exact (enc_got h).1) hq
theorem got_eta (s : List UInt8) : got s = (gL s, gN s, gE s) := rfl
theorem get_no (s : ByteArray) (h : ¬ gE s.toList = 0) (w : World) :
    Calls Try.prog 11 #[.string s] w fun e w' => ∃ A c, e = .returned (.tuple #[.slice A 0 c, .int .i64 (gN s.toList), .int .i64 (gE s.toList)]) ∧ Below w.heap.size w w' :=
  (get_any s w).mono fun e w' hq => by
    obtain ⟨A, c, he, _, hb⟩ := getQ_is (L := []) (N := gN s.toList) (E := gE s.toList) (by rw [got_eta, (got_no h).1]) hq
    exact ⟨A, c, he, hb⟩
/-- What is got is put as it stood. -/
theorem put_got (s : ByteArray) (h : gE s.toList = 0) (A : Option Addr) (c : Nat) (w : World) (hl : Opts w w.heap.size A (gL s.toList).length (gL s.toList)) :
    Calls Try.prog 9 #[.slice A (gL s.toList).length c] w fun e w' => e = .returned (.tuple #[.string s, .int .i64 0]) ∧ Below w.heap.size w w' := by
  have h' := put_row (gL s.toList) A _ c w hl (by have := gL_le s.toList; unfold maxLen; omega)
  obtain ⟨_, h1, h2⟩ := enc_got h
  rw [h1, h2, bOf_toList] at h'
  exact h'
theorem same_rows (a b : List Opt) (A A' : Option Addr) (n m c c' : Nat) (w : World) (ha : Opts w w.heap.size A n a) (hb : Opts w w.heap.size A' m b) (hn : n ≤ maxLen) (hm : m ≤ maxLen) :
    Calls Try.prog 15 #[.slice A n c, .slice A' m c'] w fun e w' => e = .returned (.bool (sm a b)) ∧ Below w.heap.size w w' := rsame_any a b _ A A' n m c c' w ha hb hn hm (Nat.le_refl _)
theorem same_self (a : List Opt) (A A' : Option Addr) (n m c c' : Nat) (w : World) (ha : Opts w w.heap.size A n a) (hb : Opts w w.heap.size A' m a) (hn : n ≤ maxLen) (hm : m ≤ maxLen) :
    Calls Try.prog 15 #[.slice A n c, .slice A' m c'] w fun e w' => e = .returned (.bool true) ∧ Below w.heap.size w w' := by
  have h := same_rows a a A A' n m c c' w ha hb hn hm
  rw [sm_self] at h
  exact h
theorem alike_rows (a b : List Opt) (A A' : Option Addr) (n m c c' : Nat) (w : World) (ha : Opts w w.heap.size A n a) (hb : Opts w w.heap.size A' m b) (hn : n ≤ maxLen) (hm : m ≤ maxLen) :
    Calls Try.prog 18 #[.slice A n c, .slice A' m c'] w fun e w' => e = .returned (.bool (sm a b)) ∧ Below w.heap.size w w' := alike_any a b _ A A' n m c c' w ha hb hn hm (Nat.le_refl _)
theorem rput_row (l : List Opt) (A : Option Addr) (n c : Nat) (w : World) (hl : Opts w w.heap.size A n l) (hn : n ≤ maxLen) :
    Calls Try.prog 10 #[.slice A n c] w fun e w' => e = .returned (.tuple #[.string (bOf (pA l)), .int .i64 (pE l)]) ∧ Below w.heap.size w w' := rput_any l _ A n c w hl hn (Nat.le_refl _)
theorem find_row (t : UInt8) (l : List Opt) (A : Option Addr) (n c : Nat) (w : World) (hl : Opts w w.heap.size A n l) (hn : n ≤ maxLen) :
    Calls Try.prog 13 #[.int .u8 t.toNat, .slice A n c] w fun e w' => e = .returned (.tuple #[.agg #[.int .u8 (fA t l).1.toNat, .string (fA t l).2], .bool (fB t l)]) ∧ Below w.heap.size w w' := find_any t l _ A n c w hl hn (Nat.le_refl _)
theorem rfind_row (t : UInt8) (l : List Opt) (A : Option Addr) (n c : Nat) (w : World) (hl : Opts w w.heap.size A n l) (hn : n ≤ maxLen) :
    Calls Try.prog 14 #[.int .u8 t.toNat, .slice A n c] w fun e w' => e = .returned (.tuple #[.agg #[.int .u8 (fA t l).1.toNat, .string (fA t l).2], .bool (fB t l)]) ∧ Below w.heap.size w w' := rfind_any t l _ A n c w hl hn (Nat.le_refl _)
theorem without_row (t : UInt8) (l : List Opt) (A : Option Addr) (n c : Nat) (w : World) (hl : Opts w w.heap.size A n l) (hn : n ≤ 1000) :
    Calls Try.prog 16 #[.int .u8 t.toNat, .slice A n c] w (RowQ (wo t l) w) := without_any t l _ A n c w hl hn (Nat.le_refl _)
theorem rwithout_row (t : UInt8) (l : List Opt) (A : Option Addr) (n c : Nat) (w : World) (hl : Opts w w.heap.size A n l) (hn : n ≤ 1000) :
    Calls Try.prog 17 #[.int .u8 t.toNat, .slice A n c] w (RowQ (wo t l) w) := rwithout_any t l _ A n c w hl hn (Nat.le_refl _)
theorem long_row (l : List Opt) (A : Option Addr) (n c : Nat) (w : World) (hl : Opts w w.heap.size A n l) (hn : n ≤ maxLen) : Calls Try.prog 7 #[.slice A n c] w (LongQ l n w) := long_any l _ A n c w hl hn
theorem wo_len' (t : UInt8) (l : List Opt) (n : Nat) (hl : l.length = n) (hn : n ≤ 1000) : (wo t l).length ≤ maxLen := by have := wo_le t l; unfold maxLen; omega
end Go.Proofs.Ytbmifcfgpmgcpaa.Opt
