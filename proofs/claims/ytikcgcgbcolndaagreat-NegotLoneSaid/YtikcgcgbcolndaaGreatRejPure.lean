/- Rejects as lists of bytes. Plain mathematics, of no program. -/
import Derived.Test.YtikcgcgbcolndaaGreatPktPure
namespace Go.Proofs.YtikcgcgbcolndaaGreat.Rej
open Go.Proofs.YtikcgcgbcolndaaGreat.Oct Go.Proofs.YtikcgcgbcolndaaGreat.Pkt

/-- How much there is space for in a packet of at most m bytes. -/
def sp (m : Nat) : Nat := min (m - 4) 1496
theorem sp_le (m : Nat) : sp m ≤ 1496 := Nat.min_le_right _ _
theorem sp_small {m : Nat} (h : 64 ≤ m) : 60 ≤ sp m := by unfold sp; omega
/-- Texts one behind the other. -/
def cat (l : List ByteArray) : List UInt8 := (l.map ByteArray.toList).flatten
theorem cat_nil : cat [] = [] := rfl
theorem cat_one (s : ByteArray) : cat [s] = s.toList := by simp [cat]
theorem cat_two (s t : ByteArray) : cat [s, t] = s.toList ++ t.toList := by simp [cat]
theorem cat_snoc (l : List ByteArray) (s : ByteArray) : cat (l ++ [s]) = cat l ++ s.toList := by simp [cat]
theorem cat_more {l : List ByteArray} {k : Nat} {s : ByteArray} (h : l[k]? = some s) : cat (l.take (k + 1)) = cat (l.take k) ++ s.toList := by
  obtain ⟨hk, e⟩ := List.getElem?_eq_some_iff.1 h
  rw [List.take_succ_eq_append_getElem hk, e, cat_snoc]
/-- One text more, as far as there is space. -/
theorem take_more (a s : List UInt8) (m : Nat) : a.take m ++ s.take (m - (a.take m).length) = (a ++ s).take m := by
  rw [List.take_append, List.length_take]
  congr 2
  omega
end Go.Proofs.YtikcgcgbcolndaaGreat.Rej
