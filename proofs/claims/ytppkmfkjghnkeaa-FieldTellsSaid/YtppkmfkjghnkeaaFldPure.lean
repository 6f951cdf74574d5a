/- The fields of a frame, as lists of bytes. Plain mathematics, of no program. -/
import Derived.Test.YtppkmfkjghnkeaaPure
namespace Go.Proofs.Ytppkmfkjghnkeaa.Fld
open Go.Proofs.Ytppkmfkjghnkeaa.Oct

/-- Whether a number is a protocol. -/
def may (p : Nat) : Bool := p % 2 == 1 && (p / 256 % 2 == 0 && p != 255)
theorem may_iff (p : Nat) : may p = true ↔ p % 2 = 1 ∧ p / 256 % 2 = 0 ∧ p ≠ 255 := by simp [may]
/-- Address and control; the protocol's higher byte; its lower one. -/
def opens (p : Nat) (a : Bool) : List UInt8 := if a && p != 49185 then [] else [255, 3]
def higher (p : Nat) (c : Bool) : List UInt8 := if (c && p / 256 == 0) && p != 49185 then [] else [UInt8.ofNat (p / 256)]
def lower (p : Nat) : List UInt8 := [UInt8.ofNat (p % 256)]
def heads (p : Nat) (a c : Bool) : List UInt8 := opens p a ++ (higher p c ++ lower p)

/-- What stands behind address and control. -/
def skip (s : List UInt8) : List UInt8 := if s.take 2 = [255, 3] then s.drop 2 else s
/-- How many bytes the protocol takes. -/
def wid (t : List UInt8) : Nat := match t with | [] => 2 | c :: _ => if c.toNat % 2 = 1 then 1 else 2
def gE (t : List UInt8) : Nat := if t.length < wid t then 6 else if may (val (t.take (wid t))) then 0 else 7
def gP (t : List UInt8) : Nat := if gE t = 0 then val (t.take (wid t)) else 0
def gR (t : List UInt8) : List UInt8 := if gE t = 0 then t.drop (wid t) else []

theorem wid_le (t : List UInt8) : wid t = 1 ∨ wid t = 2 := by
  cases t with
  | nil => exact .inr rfl
  | cons c t => simp only [wid]; split <;> simp
theorem gP_lt (t : List UInt8) : gP t < 65536 := by
  unfold gP
  split
  · have h1 := val_lt (t.take (wid t))
    have h2 : (t.take (wid t)).length ≤ 2 := Nat.le_trans (List.length_take_le _ _) (by rcases wid_le t with h | h <;> omega)
    have h3 : 256 ^ (t.take (wid t)).length ≤ 256 ^ 2 := Nat.pow_le_pow_right (by omega) h2
    omega
  · omega
theorem gE_ok {t : List UInt8} (h : gE t = 0) : may (gP t) = true := by
  have h0 := h
  unfold gE at h
  unfold gP
  rw [if_pos h0]
  split at h
  · cases h
  · split at h
    · assumption
    · cases h
theorem gP_none {t : List UInt8} (h : gE t ≠ 0) : gP t = 0 ∧ gR t = [] := by unfold gP gR; rw [if_neg h, if_neg h]; exact ⟨rfl, rfl⟩
theorem gR_le (t : List UInt8) : (gR t).length ≤ t.length := by
  unfold gR
  split
  · rw [List.length_drop]; omega
  · simp
theorem skip_le (s : List UInt8) : (skip s).length ≤ s.length := by
  unfold skip
  split
  · rw [List.length_drop]; omega
  · exact Nat.le_refl _

theorem ofNat_toNat {n : Nat} (h : n < 256) : (UInt8.ofNat n).toNat = n := by rw [UInt8.toNat_ofNat']; omega
theorem high_even {p : Nat} (hp : p < 65536) (h : may p = true) : (UInt8.ofNat (p / 256)).toNat = p / 256 ∧ p / 256 % 2 = 0 := ⟨ofNat_toNat (by omega), ((may_iff p).1 h).2.1⟩
theorem low_odd {p : Nat} (h : may p = true) : (UInt8.ofNat (p % 256)).toNat = p % 256 ∧ p % 256 % 2 = 1 := ⟨ofNat_toNat (by omega), by have := ((may_iff p).1 h).1; omega⟩
theorem ne_255 {c : UInt8} (h : c.toNat ≠ 255) (r : List UInt8) : ¬ (c :: r).take 2 = [255, 3] := by
  intro e
  rw [List.take_succ_cons] at e
  have := (List.cons.inj e).1
  subst this
  exact h rfl
/-- Behind address and control stand the protocol and the rest. -/
theorem skip_heads {p : Nat} (hp : p < 65536) (h : may p = true) (a c : Bool) (s : List UInt8) : skip (heads p a c ++ s) = higher p c ++ (lower p ++ s) := by
  have hh := high_even hp h
  have hl := low_odd h
  have h3 := ((may_iff p).1 h).2.2
  unfold heads opens
  split
  · rw [List.nil_append, List.append_assoc]
    unfold skip
    rw [if_neg]
    unfold higher
    split
    · rename_i _ hc
      simp only [Bool.and_eq_true, beq_iff_eq] at hc
      exact ne_255 (by rw [hl.1]; omega) _
    · exact ne_255 (by rw [hh.1]; omega) _
  · rw [List.append_assoc, List.append_assoc]
    unfold skip
    rw [if_pos (by rfl)]
    rfl
theorem wid_heads {p : Nat} (hp : p < 65536) (h : may p = true) (c : Bool) (s : List UInt8) : wid (higher p c ++ (lower p ++ s)) = (higher p c ++ lower p).length := by
  have hh := high_even hp h
  have hl := low_odd h
  unfold higher
  split
  · simp only [List.nil_append, lower, List.cons_append, wid, hl.1, hl.2, List.length_cons, List.length_nil, if_true]
  · simp only [List.cons_append, wid, hh.1, hh.2, lower, List.nil_append, List.length_cons, List.length_nil]
    rfl
theorem val_heads {p : Nat} (hp : p < 65536) (c : Bool) : val (higher p c ++ lower p) = p := by
  unfold higher
  split
  · rename_i hc
    simp only [Bool.and_eq_true, beq_iff_eq] at hc
    simp only [lower, List.nil_append, val, List.foldl_cons, List.foldl_nil]
    rw [ofNat_toNat (by omega)]
    omega
  · simp only [lower, List.cons_append, List.nil_append, val, List.foldl_cons, List.foldl_nil]
    rw [ofNat_toNat (by omega), ofNat_toNat (by omega)]
    omega
/-- What was put is got. -/
theorem got_heads {p : Nat} (hp : p < 65536) (h : may p = true) (a c : Bool) (s : List UInt8) :
    gE (skip (heads p a c ++ s)) = 0 ∧ gP (skip (heads p a c ++ s)) = p ∧ gR (skip (heads p a c ++ s)) = s := by
  have hs := skip_heads hp h a c s
  have hw := wid_heads hp h c s
  have e : higher p c ++ (lower p ++ s) = (higher p c ++ lower p) ++ s := (List.append_assoc _ _ _).symm
  have h0 : gE (higher p c ++ (lower p ++ s)) = 0 := by
    unfold gE
    rw [hw, e, List.take_left, val_heads hp, h, if_neg (by rw [List.length_append]; omega), if_pos rfl]
  rw [hs]
  refine ⟨h0, ?_, ?_⟩
  · unfold gP; rw [if_pos h0, hw, e, List.take_left, val_heads hp]
  · unfold gR; rw [if_pos h0, hw, e, List.drop_left]
theorem heads_length (p : Nat) (a c : Bool) : (heads p a c).length = (if a && p != 49185 then 0 else 2) + (if (c && p / 256 == 0) && p != 49185 then 1 else 2) := by
  unfold heads opens higher lower
  split <;> split <;> rfl
theorem heads_pos (p : Nat) (a c : Bool) : 1 ≤ (heads p a c).length ∧ (heads p a c).length ≤ 4 := by
  rw [heads_length]
  split <;> split <;> omega
/-- What is cut ahead of the protocol's last byte. -/
theorem cut_heads {p : Nat} (hp : p < 65536) (h : may p = true) (a c : Bool) (k : Nat) (hk : k < (heads p a c).length) :
    gE (skip ((heads p a c).take k)) = (if k = 1 ∧ (heads p a c).head? = some 255 then 7 else 6) := by
  have hh := high_even hp h
  have hl := low_odd h
  have h3 := ((may_iff p).1 h).2.2
  have hx : ∀ r : List UInt8, wid (UInt8.ofNat (p / 256) :: r) = 2 := fun r => by simp only [wid, hh.1, hh.2]; rfl
  have hne : UInt8.ofNat (p / 256) ≠ 255 := fun e => by have := congrArg UInt8.toNat e; rw [hh.1] at this; have h4 : (255 : UInt8).toNat = 255 := rfl; omega
  have hsk : skip [UInt8.ofNat (p / 256)] = [UInt8.ofNat (p / 256)] := by unfold skip; rw [if_neg (ne_255 (by rw [hh.1]; omega) [])]
  have hz : gE [UInt8.ofNat (p / 256)] = 6 := by unfold gE; rw [hx, if_pos (by simp)]
  have hn : gE (skip []) = 6 := by decide
  have h7 : gE (skip [255]) = 7 := by decide +kernel
  have h8 : gE (skip [255, 3]) = 6 := by decide +kernel
  have h9 : skip [255, 3, UInt8.ofNat (p / 256)] = [UInt8.ofNat (p / 256)] := by unfold skip; exact if_pos rfl
  unfold heads opens higher lower at hk ⊢
  split at hk <;> split at hk
  · rename_i h1 h2
    rw [if_pos h1, if_pos h2]
    simp only [List.nil_append, List.length_cons, List.length_nil] at hk
    obtain rfl : k = 0 := by omega
    rw [List.take_zero, hn, if_neg (fun h => absurd h.1 (by decide))]
  · rename_i h1 h2
    rw [if_pos h1, if_neg h2]
    simp only [List.nil_append, List.length_cons, List.length_nil, List.cons_append] at hk
    rcases (by omega : k = 0 ∨ k = 1) with rfl | rfl
    · rw [List.take_zero, hn, if_neg (fun h => absurd h.1 (by decide))]
    · rw [if_neg (fun h => hne (Option.some.inj h.2))]
      show gE (skip [UInt8.ofNat (p / 256)]) = 6
      rw [hsk, hz]
  · rename_i h1 h2
    rw [if_neg h1, if_pos h2]
    simp only [List.nil_append, List.length_cons, List.length_nil, List.cons_append] at hk
    rcases (by omega : k = 0 ∨ k = 1 ∨ k = 2) with rfl | rfl | rfl
    · rw [List.take_zero, hn, if_neg (fun h => absurd h.1 (by decide))]
    · rw [if_pos ⟨rfl, rfl⟩]; exact h7
    · rw [if_neg (fun h => absurd h.1 (by decide))]; exact h8
  · rename_i h1 h2
    rw [if_neg h1, if_neg h2]
    simp only [List.nil_append, List.length_cons, List.length_nil, List.cons_append] at hk
    rcases (by omega : k = 0 ∨ k = 1 ∨ k = 2 ∨ k = 3) with rfl | rfl | rfl | rfl
    · rw [List.take_zero, hn, if_neg (fun h => absurd h.1 (by decide))]
    · rw [if_pos ⟨rfl, rfl⟩]; exact h7
    · rw [if_neg (fun h => absurd h.1 (by decide))]; exact h8
    · rw [if_neg (fun h => absurd h.1 (by decide))]
      show gE (skip [255, 3, UInt8.ofNat (p / 256)]) = 6
      rw [h9, hz]
end Go.Proofs.Ytppkmfkjghnkeaa.Fld
