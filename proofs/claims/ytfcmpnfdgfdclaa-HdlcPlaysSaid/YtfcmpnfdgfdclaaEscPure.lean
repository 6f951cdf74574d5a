/- Escaping as mathematics of lists of bytes. Of no program. -/
import Derived.Test.YtfcmpnfdgfdclaaPure
namespace Go.Proofs.Ytfcmpnfdgfdclaa.Esc
open Go.Proofs.Ytfcmpnfdgfdclaa.Oct

def mapped (a : Nat) (b : UInt8) : Bool := decide (b.toNat < 32) && a.testBit b.toNat
def hidden (a : Nat) (b : UInt8) : Bool := b == 125 || b == 126 || mapped a b
def flip (b : UInt8) : UInt8 := b ^^^ 32
def esc (a : Nat) (b : UInt8) : List UInt8 := if hidden a b then [125, flip b] else [b]
def put (a : Nat) (l : List UInt8) : List UInt8 := l.flatMap (esc a)
def strip (a : Nat) (l : List UInt8) : List UInt8 := l.filter fun b => !mapped a b
/-- What has been got, and whether a mark stands ahead. -/
def gstep (o : List UInt8 × Bool) (b : UInt8) : List UInt8 × Bool := if o.2 then (o.1 ++ [flip b], false) else if b = 125 then (o.1, true) else (o.1 ++ [b], false)
def grun (l : List UInt8) : List UInt8 × Bool := l.foldl gstep ([], false)
def getOk (l : List UInt8) : Bool := decide (126 ∉ l) && !(grun l).2
def getA (s : ByteArray) : ByteArray := if getOk s.toList then bOf (grun s.toList).1 else bOf []
def getE (s : ByteArray) : Int := if getOk s.toList then 0 else 7

theorem flip_flip (b : UInt8) : flip (flip b) = b := by
  unfold flip
  rw [UInt8.xor_assoc, UInt8.xor_self, UInt8.xor_zero]
theorem flip_low : ∀ n, n < 32 → 32 ≤ (flip (UInt8.ofNat n)).toNat ∧ flip (UInt8.ofNat n) ≠ 126 := by decide
theorem mapped_low {a : Nat} {b : UInt8} (h : mapped a b = true) : b.toNat < 32 := by
  unfold mapped at h
  exact of_decide_eq_true (Bool.and_eq_true_iff.1 h).1
theorem mapped_high {a : Nat} {b : UInt8} (h : 32 ≤ b.toNat) : mapped a b = false := by
  unfold mapped
  rw [decide_eq_false (by omega), Bool.false_and]
theorem flip_mapped {a : Nat} {b : UInt8} (h : mapped a b = true) : 32 ≤ (flip b).toNat ∧ flip b ≠ 126 := by
  have := flip_low b.toNat (mapped_low h)
  rw [UInt8.ofNat_toNat] at this
  exact this
theorem hidden_no {a : Nat} {b : UInt8} (h : hidden a b = false) : b ≠ 125 ∧ b ≠ 126 ∧ mapped a b = false := by
  unfold hidden at h
  rw [Bool.or_eq_false_iff, Bool.or_eq_false_iff] at h
  exact ⟨by simpa using h.1.1, by simpa using h.1.2, h.2⟩
theorem hidden_yes {a : Nat} {b : UInt8} (h : hidden a b = true) : b = 125 ∨ b = 126 ∨ mapped a b = true := by
  unfold hidden at h
  rw [Bool.or_eq_true, Bool.or_eq_true] at h
  rcases h with (h | h) | h
  · exact .inl (by simpa using h)
  · exact .inr (.inl (by simpa using h))
  · exact .inr (.inr h)
theorem flip_hidden {a : Nat} {b : UInt8} (h : hidden a b = true) : 32 ≤ (flip b).toNat ∧ flip b ≠ 126 := by
  rcases hidden_yes h with rfl | rfl | h
  · decide
  · decide
  · exact flip_mapped h
theorem esc_yes {a : Nat} {b : UInt8} (h : hidden a b = true) : esc a b = [125, flip b] := by unfold esc; rw [h]; rfl
theorem esc_no {a : Nat} {b : UInt8} (h : hidden a b = false) : esc a b = [b] := by unfold esc; rw [h]; rfl
theorem esc_clean (a : Nat) (b : UInt8) : ∀ x ∈ esc a b, x ≠ 126 ∧ mapped a x = false := by
  intro x hx
  cases h : hidden a b
  · rw [esc_no h, List.mem_singleton] at hx
    subst hx
    exact (hidden_no h).2
  · rw [esc_yes h, List.mem_cons, List.mem_singleton] at hx
    have hf := flip_hidden h
    rcases hx with rfl | rfl
    · exact ⟨by decide, mapped_high (by decide)⟩
    · exact ⟨hf.2, mapped_high hf.1⟩
theorem put_nil (a : Nat) : put a [] = [] := rfl
theorem put_append (a : Nat) (s t : List UInt8) : put a (s ++ t) = put a s ++ put a t := by simp [put]
theorem put_snoc (a : Nat) (l : List UInt8) (b : UInt8) : put a (l ++ [b]) = put a l ++ esc a b := by simp [put]
theorem put_cons (a : Nat) (l : List UInt8) (b : UInt8) : put a (b :: l) = esc a b ++ put a l := by simp [put]
theorem put_clean (a : Nat) (l : List UInt8) : ∀ x ∈ put a l, x ≠ 126 ∧ mapped a x = false := by
  intro x hx
  obtain ⟨b, _, hb⟩ := List.mem_flatMap.1 hx
  exact esc_clean a b x hb
theorem put_length (a : Nat) (l : List UInt8) : (put a l).length = l.length + l.countP (hidden a) := by
  induction l with
  | nil => rfl
  | cons b l ih =>
    rw [put_cons, List.length_append, ih, List.length_cons]
    cases h : hidden a b
    · rw [esc_no h, List.countP_cons_of_neg (by simp [h])]; simp; omega
    · rw [esc_yes h, List.countP_cons_of_pos h]; simp; omega
theorem put_le (a : Nat) (l : List UInt8) : l.length ≤ (put a l).length ∧ (put a l).length ≤ 2 * l.length := by
  have h := put_length a l
  have h2 : l.countP (hidden a) ≤ l.length := List.countP_le_length
  omega
theorem count_snoc (a : Nat) (l : List UInt8) (b : UInt8) : (l ++ [b]).countP (hidden a) = l.countP (hidden a) + if hidden a b then 1 else 0 := by
  rw [List.countP_append]
  cases h : hidden a b <;> simp [h]
theorem grun_nil : grun [] = ([], false) := rfl
theorem grun_snoc (l : List UInt8) (b : UInt8) : grun (l ++ [b]) = gstep (grun l) b := by simp [grun]
theorem gfold_put (a : Nat) (l : List UInt8) : ∀ o, (put a l).foldl gstep (o, false) = (o ++ l, false) := by
  induction l with
  | nil => intro o; simp [put]
  | cons b l ih =>
    intro o
    rw [put_cons, List.foldl_append]
    cases h : hidden a b
    · rw [esc_no h, List.foldl_cons, List.foldl_nil]
      have : gstep (o, false) b = (o ++ [b], false) := by
        unfold gstep
        rw [if_neg (by simp), if_neg (hidden_no h).1]
      rw [this, ih]
      simp
    · rw [esc_yes h, List.foldl_cons, List.foldl_cons, List.foldl_nil]
      have h1 : gstep (o, false) 125 = (o, true) := rfl
      have h2 : gstep (o, true) (flip b) = (o ++ [b], false) := by
        unfold gstep
        rw [if_pos rfl, flip_flip]
      rw [h1, h2, ih]
      simp
theorem grun_put (a : Nat) (l : List UInt8) : grun (put a l) = (l, false) := by
  unfold grun
  rw [gfold_put]
  rfl
theorem getOk_put (a : Nat) (l : List UInt8) : getOk (put a l) = true := by
  unfold getOk
  rw [grun_put, decide_eq_true (show 126 ∉ put a l from fun h => (put_clean a l _ h).1 rfl)]
  rfl
theorem get_put (a : Nat) (s : ByteArray) : getA (bOf (put a s.toList)) = s ∧ getE (bOf (put a s.toList)) = 0 := by
  unfold getA getE
  rw [toList_bOf, getOk_put, if_pos rfl, if_pos rfl, grun_put]
  exact ⟨bOf_toList s, rfl⟩
theorem strip_clean {a : Nat} {l : List UInt8} (h : ∀ x ∈ l, mapped a x = false) : strip a l = l := by
  unfold strip
  rw [List.filter_eq_self]
  intro x hx
  rw [h x hx]; rfl
theorem strip_put (a : Nat) (l : List UInt8) : strip a (put a l) = put a l := strip_clean fun x hx => (put_clean a l x hx).2
theorem strip_snoc (a : Nat) (l : List UInt8) (b : UInt8) : strip a (l ++ [b]) = strip a l ++ if mapped a b then [] else [b] := by
  unfold strip
  rw [List.filter_append]
  cases h : mapped a b <;> simp [h]
theorem strip_le (a : Nat) (l : List UInt8) : (strip a l).length ≤ l.length := List.length_filter_le _ _
theorem strip_insert {a : Nat} {b : UInt8} (l : List UInt8) (k : Nat) (h : mapped a b = true) : strip a (l.take k ++ b :: l.drop k) = strip a l := by
  conv => rhs; rw [← List.take_append_drop k l]
  unfold strip
  rw [List.filter_append, List.filter_append, List.filter_cons, h]
  rfl
theorem get_no {s : ByteArray} (h : getOk s.toList = false) : getA s = bOf [] ∧ getE s = 7 := by
  unfold getA getE; rw [h]; exact ⟨rfl, rfl⟩
theorem get_yes {s : ByteArray} (h : getOk s.toList = true) : getA s = bOf (grun s.toList).1 ∧ getE s = 0 := by
  unfold getA getE; rw [h]; exact ⟨rfl, rfl⟩
theorem getOk_flag {l : List UInt8} (h : 126 ∈ l) : getOk l = false := by
  unfold getOk; rw [decide_eq_false (by simpa using h), Bool.false_and]
theorem getOk_of {l : List UInt8} {m : Bool} (h : 126 ∉ l) (hm : (grun l).2 = m) : getOk l = !m := by
  unfold getOk; rw [decide_eq_true h, Bool.true_and, hm]
theorem getOk_mark {l : List UInt8} (h : (grun l).2 = true) : getOk l = false := by
  unfold getOk; rw [h]; simp
theorem grun_marked {l : List UInt8} {o : List UInt8} (h : grun l = (o, true)) (b : UInt8) : grun (l ++ [b]) = (o ++ [flip b], false) := by
  rw [grun_snoc, h]; rfl
theorem grun_mark {l : List UInt8} {o : List UInt8} (h : grun l = (o, false)) : grun (l ++ [125]) = (o, true) := by
  rw [grun_snoc, h]; rfl
theorem grun_plain {l : List UInt8} {o : List UInt8} (h : grun l = (o, false)) {b : UInt8} (hb : b ≠ 125) : grun (l ++ [b]) = (o ++ [b], false) := by
  rw [grun_snoc, h]
  unfold gstep
  rw [if_neg (by simp), if_neg hb]
theorem grun_le (l : List UInt8) : (grun l).1.length ≤ l.length := by
  have key : ∀ (l : List UInt8) (o : List UInt8 × Bool), (l.foldl gstep o).1.length ≤ o.1.length + l.length := by
    intro l
    induction l with
    | nil => intro o; simp
    | cons b l ih =>
      intro o
      rw [List.foldl_cons, List.length_cons]
      have h1 := ih (gstep o b)
      have h2 : (gstep o b).1.length ≤ o.1.length + 1 := by
        unfold gstep
        split
        · simp
        · split <;> simp
      omega
  have := key l ([], false)
  simpa [grun] using this

theorem flip_num (b : UInt8) : bits .xor .u8 (b.toNat : Int) 32 = ((flip b).toNat : Int) := by
  rw [show (32 : Int) = ((32 : Nat) : Int) from rfl, u8_xor_nat _ _ b.toNat_lt (by omega)]
  unfold flip
  rw [UInt8.toNat_xor]
  rfl
theorem turn_low : ∀ n, n < 256 → n / 32 % 2 = 1 → (flip (UInt8.ofNat n)).toNat = n - 32 ∧ 32 ≤ n := by decide +kernel
theorem turn_high : ∀ n, n < 256 → n / 32 % 2 ≠ 1 → (flip (UInt8.ofNat n)).toNat = n + 32 ∧ n + 32 < 256 := by decide +kernel
theorem flip_down (b : UInt8) (h : b.toNat / 32 % 2 = 1) : (flip b).toNat = b.toNat - 32 ∧ 32 ≤ b.toNat := by
  have := turn_low b.toNat b.toNat_lt h
  rw [UInt8.ofNat_toNat] at this
  exact this
theorem flip_up (b : UInt8) (h : b.toNat / 32 % 2 ≠ 1) : (flip b).toNat = b.toNat + 32 ∧ b.toNat + 32 < 256 := by
  have := turn_high b.toNat b.toNat_lt h
  rw [UInt8.ofNat_toNat] at this
  exact this
theorem eq_num (b : UInt8) (n : Nat) (hn : n < 256) : (b = UInt8.ofNat n) ↔ b.toNat = n := by
  constructor
  · rintro rfl; rw [UInt8.toNat_ofNat']; omega
  · intro h; rw [← h, UInt8.ofNat_toNat]
theorem mapped_div (a : Nat) (b : UInt8) (h : b.toNat < 32) : mapped a b = (a / 2 ^ b.toNat % 2 == 1) := by
  unfold mapped
  rw [decide_eq_true h, Bool.true_and, Nat.testBit_eq_decide_div_mod_eq]
  by_cases e : a / 2 ^ b.toNat % 2 = 1 <;> simp [e]
end Go.Proofs.Ytfcmpnfdgfdclaa.Esc
