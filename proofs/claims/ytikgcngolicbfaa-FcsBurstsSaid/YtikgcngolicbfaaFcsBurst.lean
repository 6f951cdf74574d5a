/- Bits that are turned: a burst of at most sixteen bits of a sealed text shows. Plain mathematics, of no program. -/
import Derived.Test.YtikgcngolicbfaaFcsPure
namespace Go.Proofs.Ytikgcngolicbfaa.Fcs
open Go.Proofs.Ytikgcngolicbfaa.Oct

def bitAt (l : List UInt8) (j : Nat) : Bool := (l.getD (j / 8) 0).toNat.testBit (j % 8)
/-- The text with its bit k turned. -/
def flipAt (l : List UInt8) (k : Nat) : List UInt8 := l.set (k / 8) (l.getD (k / 8) 0 ^^^ UInt8.ofNat (2 ^ (k % 8)))
theorem flipAt_length (l : List UInt8) (k : Nat) : (flipAt l k).length = l.length := by simp [flipAt]
theorem bitAt_flip (l : List UInt8) (k j : Nat) (h : k < 8 * l.length) : bitAt (flipAt l k) j = (bitAt l j ^^ decide (j = k)) := by
  unfold bitAt flipAt
  have hp : (UInt8.ofNat (2 ^ (k % 8))).toNat = 2 ^ (k % 8) := by
    rw [UInt8.toNat_ofNat']
    exact Nat.mod_eq_of_lt (Nat.pow_lt_pow_right (by omega) (by omega))
  by_cases e : j / 8 = k / 8
  · rw [e, List.getD_eq_getElem?_getD, List.getElem?_set_self (by omega), Option.getD_some, UInt8.toNat_xor, hp, Nat.testBit_xor, Nat.testBit_two_pow]
    congr 1
    rw [decide_eq_decide]
    omega
  · rw [List.getD_eq_getElem?_getD, List.getElem?_set_ne (fun h => e h.symm), ← List.getD_eq_getElem?_getD]
    have : ¬ j = k := fun h => e (by rw [h])
    simp [this]
theorem bitsN_range (k : Nat) : ∀ n, bitsN k n = (List.range k).map n.testBit := by
  induction k with
  | zero => exact fun _ => rfl
  | succ k ih =>
    intro n
    rw [bitsN, ih, List.range_succ_eq_map, List.map_cons, List.map_map]
    congr 1
    · rw [Nat.testBit_zero]; by_cases e : n % 2 = 1 <;> simp [e]
    · apply List.map_congr_left
      intro i _
      simp [Nat.testBit_succ]
theorem bitsL_range (l : List UInt8) : bitsL l = (List.range (8 * l.length)).map (bitAt l) := by
  induction l with
  | nil => rfl
  | cons x l ih =>
    rw [bitsL_cons, ih, bitsN_range, List.length_cons, show 8 * (l.length + 1) = 8 + 8 * l.length by omega, List.range_add, List.map_append, List.map_map]
    congr 1
    apply List.map_congr_left
    intro i _
    simp only [Function.comp]
    unfold bitAt
    rw [show (8 + i) / 8 = i / 8 + 1 by omega, show (8 + i) % 8 = i % 8 by omega]
    simp

/-- Which bits are turned: the first i of the bits v, from n on. -/
def err (n i v j : Nat) : Bool := decide (n ≤ j ∧ j < n + i) && v.testBit (j - n)
theorem err_zero (n v j : Nat) : err n 0 v j = false := by
  unfold err
  rw [decide_eq_false (by omega)]; rfl
theorem err_no (n i v : Nat) (h : v.testBit i = false) (j : Nat) : err n (i + 1) v j = err n i v j := by
  unfold err
  by_cases e : j = n + i
  · subst e; rw [show n + i - n = i by omega, h]; simp
  · congr 1
    rw [decide_eq_decide]; omega
theorem err_yes (n i v : Nat) (h : v.testBit i = true) (j : Nat) : err n (i + 1) v j = (err n i v j ^^ decide (j = n + i)) := by
  unfold err
  by_cases e : j = n + i
  · subst e; rw [show n + i - n = i by omega, h, decide_eq_true (by omega), decide_eq_false (by omega)]; simp
  · rw [decide_eq_false e, Bool.xor_false]
    congr 1
    rw [decide_eq_decide]; omega
theorem err_list (n v m : Nat) : (List.range (n + 16 + m)).map (err n 16 v) = List.replicate n false ++ bitsN 16 v ++ List.replicate m false := by
  rw [List.range_add, List.range_add, List.map_append, List.map_append, bitsN_range, List.map_map, List.map_map]
  congr 1
  · congr 1
    · rw [List.eq_replicate_iff]
      refine ⟨by simp, fun b hb => ?_⟩
      obtain ⟨j, hj, rfl⟩ := List.mem_map.1 hb
      have := List.mem_range.1 hj
      unfold err
      rw [decide_eq_false (by omega)]; rfl
    · apply List.map_congr_left
      intro j hj
      have := List.mem_range.1 hj
      simp only [Function.comp]
      unfold err
      rw [decide_eq_true (by omega), show n + j - n = j by omega]; rfl
  · rw [List.eq_replicate_iff]
    refine ⟨by simp, fun b hb => ?_⟩
    obtain ⟨j, hj, rfl⟩ := List.mem_map.1 hb
    simp only [Function.comp]
    unfold err
    rw [decide_eq_false (by omega)]; rfl
theorem xor_right_eq (a b : Nat) (h : a = a ^^^ b) : b = 0 := by
  have : a ^^^ a = a ^^^ (a ^^^ b) := by rw [← h]
  rw [Nat.xor_self, ← Nat.xor_assoc, Nat.xor_self, Nat.zero_xor] at this
  exact this.symm

/-- A burst shows. -/
theorem burst (t b : List UInt8) (n v : Nat) (hl : b.length = t.length) (hn : n + 16 ≤ 8 * t.length) (hv : v ≠ 0) (hv2 : v < 65536)
    (hb : ∀ j, j < 8 * t.length → bitAt b j = (bitAt t j ^^ err n 16 v j)) (hg : good t = true) : good b = false := by
  have e1 : bitsL b = List.zipWith (· ^^ ·) (bitsL t) ((List.range (8 * t.length)).map (err n 16 v)) := by
    rw [bitsL_range, bitsL_range, hl, List.zipWith_map]
    apply List.ext_getElem
    · simp
    · intro j h1 h2
      simp only [List.getElem_map, List.getElem_zipWith, List.getElem_range]
      exact hb j (by simpa using h1)
  unfold good at hg ⊢
  rw [Bool.and_eq_true, decide_eq_true_eq, beq_iff_eq] at hg
  rw [Bool.and_eq_false_iff]
  right
  rw [beq_eq_false_iff_ne]
  intro hbad
  unfold more at hg hbad
  rw [e1] at hbad
  have h1 := run_lin (bitsL t) ((List.range (8 * t.length)).map (err n 16 v)) 65535 0 (by rw [bitsL_length]; simp)
  rw [Nat.xor_zero, hbad, hg.2] at h1
  have h2 := xor_right_eq _ _ h1
  obtain ⟨m, hm⟩ : ∃ m, 8 * t.length = n + 16 + m := ⟨8 * t.length - (n + 16), by omega⟩
  rw [hm, err_list, run_append, run_append, run_zeros] at h2
  have h3 : run 0 (bitsN 16 v) = 0 := by
    by_cases e : run 0 (bitsN 16 v) = 0
    · exact e
    · exact absurd h2 (run_ne m _ (run_lt _ _ (by omega)) e)
  have h4 := run_none _ (by rw [bitsN_length]; omega) h3
  rw [bitsN_length, ← bitsN_zero] at h4
  exact hv (bitsN_inj 16 _ _ hv2 (by omega) h4)
end Go.Proofs.Ytikgcngolicbfaa.Fcs
