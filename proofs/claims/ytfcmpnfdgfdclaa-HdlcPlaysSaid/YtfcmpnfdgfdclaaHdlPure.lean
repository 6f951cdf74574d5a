/- A receiver of frames as mathematics: what a byte does to it, what is received. Of no program. -/
import Derived.Test.YtfcmpnfdgfdclaaEscPure
import Derived.Test.YtfcmpnfdgfdclaaFcsPure
namespace Go.Proofs.Ytfcmpnfdgfdclaa.Hdl
open Go.Proofs.Ytfcmpnfdgfdclaa.Oct Go.Proofs.Ytfcmpnfdgfdclaa.Esc Go.Proofs.Ytfcmpnfdgfdclaa.Fcs

structure St where
  c0 : Nat
  c1 : Nat
  c2 : Nat
  c3 : Nat
  c4 : Nat
  most : Nat
  accm : Nat
  begun : Bool
  piece : List UInt8

/-- What a piece is: 0 good, 1 aborted, 2 too long, 3 too short, 4 of another sum. -/
def kind (most : Nat) (p : List UInt8) : Nat :=
  if p.getLast? = some 125 then 1
  else if most + 2 < (grun p).1.length then 2
  else if (grun p).1.length < 4 then 3
  else if good (grun p).1 = true then 0 else 4
def infoOf (p : List UInt8) : List UInt8 := (grun p).1.take ((grun p).1.length - 2)
def St.bump (r : St) : Nat → St
  | 0 => { r with c0 := r.c0 + 1 }
  | 1 => { r with c1 := r.c1 + 1 }
  | 2 => { r with c2 := r.c2 + 1 }
  | 3 => { r with c3 := r.c3 + 1 }
  | _ => { r with c4 := r.c4 + 1 }
def St.ends (r : St) : St := { r with begun := true, piece := [] }
def St.adds (r : St) (b : UInt8) : St := { r with piece := r.piece ++ [b] }
def feed (r : St) (b : UInt8) : St :=
  if b = 126 then (if r.piece = [] then r else r.bump (kind r.most r.piece)).ends
  else if (r.begun && !mapped r.accm b) = true then r.adds b else r
def gives (r : St) (b : UInt8) : List ByteArray :=
  if b = 126 then (if r.piece = [] then [] else if kind r.most r.piece = 0 then [bOf (infoOf r.piece)] else []) else []
def feeds (r : St) (l : List UInt8) : St := l.foldl feed r
def outs : St → List UInt8 → List ByteArray
  | _, [] => []
  | r, b :: l => gives r b ++ outs (feed r b) l

theorem feeds_nil (r : St) : feeds r [] = r := rfl
theorem outs_nil (r : St) : outs r [] = [] := rfl
theorem feeds_cons (r : St) (b : UInt8) (l : List UInt8) : feeds r (b :: l) = feeds (feed r b) l := rfl
theorem outs_cons (r : St) (b : UInt8) (l : List UInt8) : outs r (b :: l) = gives r b ++ outs (feed r b) l := rfl
theorem feeds_append (r : St) (l m : List UInt8) : feeds r (l ++ m) = feeds (feeds r l) m := by simp [feeds]
theorem outs_append (r : St) (l m : List UInt8) : outs r (l ++ m) = outs r l ++ outs (feeds r l) m := by
  induction l generalizing r with
  | nil => rfl
  | cons b l ih => rw [List.cons_append, outs_cons, outs_cons, ih, feeds_cons, List.append_assoc]
theorem feeds_snoc (r : St) (l : List UInt8) (b : UInt8) : feeds r (l ++ [b]) = feed (feeds r l) b := by simp [feeds]
theorem outs_snoc (r : St) (l : List UInt8) (b : UInt8) : outs r (l ++ [b]) = outs r l ++ gives (feeds r l) b := by
  rw [outs_append, outs_cons, outs_nil, List.append_nil]

theorem kind_le (m : Nat) (p : List UInt8) : kind m p ≤ 4 := by
  unfold kind
  split
  · omega
  · split
    · omega
    · split
      · omega
      · split <;> omega
theorem kind_one (m : Nat) (p : List UInt8) : (p.getLast? == some 125) = decide (kind m p = 1) := by
  unfold kind
  by_cases h : p.getLast? = some 125
  · rw [if_pos h, h]; rfl
  · rw [if_neg h, beq_eq_false_iff_ne.2 h]
    symm
    apply decide_eq_false
    split
    · omega
    · split
      · omega
      · split <;> omega
theorem kind_two (m : Nat) (p : List UInt8) (h1 : kind m p ≠ 1) : decide (m + 2 < (grun p).1.length) = decide (kind m p = 2) := by
  unfold kind at *
  by_cases h : p.getLast? = some 125
  · rw [if_pos h] at h1; exact absurd rfl h1
  · rw [if_neg h]
    by_cases h2 : m + 2 < (grun p).1.length
    · rw [if_pos h2, decide_eq_true h2]; rfl
    · rw [if_neg h2, decide_eq_false h2]
      symm
      apply decide_eq_false
      split
      · omega
      · split <;> omega
theorem kind_three (m : Nat) (p : List UInt8) (h1 : kind m p ≠ 1) (h2 : kind m p ≠ 2) : decide ((grun p).1.length < 4) = decide (kind m p = 3) := by
  unfold kind at *
  by_cases h : p.getLast? = some 125
  · rw [if_pos h] at h1; exact absurd rfl h1
  · rw [if_neg h] at h1 h2 ⊢
    by_cases h3 : m + 2 < (grun p).1.length
    · rw [if_pos h3] at h2; exact absurd rfl h2
    · rw [if_neg h3]
      by_cases h4 : (grun p).1.length < 4
      · rw [if_pos h4, decide_eq_true h4]; rfl
      · rw [if_neg h4, decide_eq_false h4]
        symm
        apply decide_eq_false
        split <;> omega
theorem kind_four (m : Nat) (p : List UInt8) (h1 : kind m p ≠ 1) (h2 : kind m p ≠ 2) (h3 : kind m p ≠ 3) : (!good (grun p).1) = decide (kind m p = 4) := by
  unfold kind at *
  by_cases h : p.getLast? = some 125
  · rw [if_pos h] at h1; exact absurd rfl h1
  · rw [if_neg h] at h1 h2 h3 ⊢
    by_cases h4 : m + 2 < (grun p).1.length
    · rw [if_pos h4] at h2; exact absurd rfl h2
    · rw [if_neg h4] at h1 h2 h3 ⊢
      by_cases h5 : (grun p).1.length < 4
      · rw [if_pos h5] at h3; exact absurd rfl h3
      · rw [if_neg h5]
        cases good (grun p).1 <;> rfl
theorem kind_zero {m : Nat} {p : List UInt8} (h : kind m p = 0) : p.getLast? ≠ some 125 ∧ (grun p).1.length ≤ m + 2 ∧ 4 ≤ (grun p).1.length ∧ good (grun p).1 = true := by
  unfold kind at h
  split at h
  · omega
  · rename_i h1
    split at h
    · omega
    · split at h
      · omega
      · split at h
        · exact ⟨h1, by omega, by omega, by assumption⟩
        · omega

/-- Behind a byte that is no mark no mark stands ahead. -/
theorem marked_last (l : List UInt8) (h : (grun l).2 = true) : l.getLast? = some 125 := by
  rcases List.eq_nil_or_concat l with rfl | ⟨i, b, rfl⟩
  · cases h
  · rw [List.concat_eq_append, grun_snoc] at h
    unfold gstep at h
    split at h
    · cases h
    · split at h
      · rename_i hb; subst hb; simp
      · cases h
def b2n : Bool → Nat | true => 1 | false => 0
theorem grun_ge (l : List UInt8) : l.length ≤ 2 * (grun l).1.length + b2n (grun l).2 := by
  have key : ∀ (l : List UInt8) (o : List UInt8 × Bool), 2 * o.1.length + b2n o.2 + l.length ≤ 2 * (l.foldl gstep o).1.length + b2n (l.foldl gstep o).2 := by
    intro l
    induction l with
    | nil => intro o; exact Nat.le_refl _
    | cons b l ih =>
      intro o
      rw [List.foldl_cons, List.length_cons]
      have h1 := ih (gstep o b)
      have h2 : 2 * o.1.length + b2n o.2 + 1 ≤ 2 * (gstep o b).1.length + b2n (gstep o b).2 := by
        obtain ⟨x, m⟩ := o
        cases m
        · by_cases e : b = 125
          · subst e; exact Nat.le_refl _
          · have : gstep (x, false) b = (x ++ [b], false) := by unfold gstep; rw [if_neg (by simp), if_neg e]
            rw [this]; simp [b2n]; omega
        · have : gstep (x, true) b = (x ++ [flip b], false) := rfl
          rw [this]; simp [b2n]; omega
      omega
  have := key l ([], false)
  rw [show 2 * (([], false) : List UInt8 × Bool).1.length + b2n (([], false) : List UInt8 × Bool).2 + l.length = l.length from by simp [b2n]] at this
  exact this

/-- What the program keeps of a piece. -/
def cutp (p : List UInt8) : List UInt8 := if p.length ≤ 3021 then p else p.take 3020 ++ [p.getLastD 0]
theorem cutp_nil : cutp [] = [] := rfl
theorem cutp_length (p : List UInt8) : (cutp p).length = min p.length 3021 := by
  unfold cutp
  split
  · omega
  · simp; omega
theorem cutp_empty (p : List UInt8) : cutp p = [] ↔ p = [] := by
  constructor
  · intro h
    have := cutp_length p
    rw [h] at this
    apply List.eq_nil_of_length_eq_zero
    simp at this
    omega
  · rintro rfl; rfl
theorem cutp_small {p : List UInt8} (h : (cutp p).length < 3021) (b : UInt8) : cutp (p ++ [b]) = cutp p ++ [b] := by
  rw [cutp_length] at h
  unfold cutp
  rw [if_pos (by simp; omega), if_pos (by omega)]
theorem cutp_full {p : List UInt8} (h : ¬ (cutp p).length < 3021) (b : UInt8) : cutp (p ++ [b]) = (cutp p).set 3020 b := by
  rw [cutp_length] at h
  have h1 : ¬ (p ++ [b]).length ≤ 3021 := by simp; omega
  have e1 : cutp (p ++ [b]) = p.take 3020 ++ [b] := by
    unfold cutp
    rw [if_neg h1, List.take_append_of_le_length (by omega)]
    simp [List.getLastD_eq_getLast?]
  rw [e1]
  unfold cutp
  split
  · rename_i h2
    have h3 : p.length = 3021 := by omega
    obtain ⟨x, hx⟩ : ∃ x, p = p.take 3020 ++ [x] := ⟨p[3020]'(by omega), by
      have := List.take_succ_eq_append_getElem (l := p) (i := 3020) (by omega)
      rw [← this, List.take_of_length_le (by omega)]⟩
    have h4 : (p.take 3020).length = 3020 := by rw [List.length_take]; omega
    generalize p.take 3020 = q at *
    subst hx
    rw [List.set_append_right _ _ (by omega), h4]
    rfl
  · have h4 : (p.take 3020).length = 3020 := by rw [List.length_take]; omega
    rw [List.set_append_right _ _ (by omega), h4]
    rfl
theorem cutp_last (p : List UInt8) : (cutp p).getLast? = p.getLast? := by
  unfold cutp
  split
  · rfl
  · rename_i h
    have : p ≠ [] := by rintro rfl; simp at h
    rw [List.getLast?_append, List.getLast?_singleton]
    simp [List.getLastD, List.getLast?_eq_some_getLast this]
    cases p with
    | nil => exact absurd rfl this
    | cons a p => rfl
theorem cutp_mem {p : List UInt8} {x : UInt8} (h : x ∈ cutp p) : x ∈ p := by
  unfold cutp at h
  split at h
  · exact h
  · rename_i hl
    rcases List.mem_append.1 h with h | h
    · exact List.mem_of_mem_take h
    · rw [List.mem_singleton] at h
      subst h
      cases p with
      | nil => simp at hl
      | cons a p => exact List.getLast_mem _
theorem kind_long {m : Nat} {p : List UInt8} (hm : m ≤ 1508) (hp : 3021 ≤ p.length) (h : p.getLast? ≠ some 125) : kind m p = 2 := by
  have h1 := grun_ge p
  have h2 : (grun p).2 = false := by
    cases e : (grun p).2
    · rfl
    · exact absurd (marked_last p e) h
  rw [h2] at h1
  unfold kind
  rw [if_neg h, if_pos (by simp [b2n] at h1; omega)]
theorem kind_abort {m : Nat} {p : List UInt8} (h : p.getLast? = some 125) : kind m p = 1 := by
  unfold kind; rw [if_pos h]
theorem kind_cutp {m : Nat} (hm : m ≤ 1508) (p : List UInt8) : kind m (cutp p) = kind m p := by
  by_cases h : p.length ≤ 3021
  · unfold cutp; rw [if_pos h]
  · by_cases h1 : p.getLast? = some 125
    · rw [kind_abort h1, kind_abort (by rw [cutp_last]; exact h1)]
    · rw [kind_long hm (by omega) h1, kind_long hm (by rw [cutp_length]; omega) (by rw [cutp_last]; exact h1)]
theorem cutp_good {m : Nat} (hm : m ≤ 1508) {p : List UInt8} (h : kind m p = 0) : cutp p = p := by
  have h1 := kind_zero h
  have h2 := grun_ge p
  unfold cutp
  rw [if_pos]
  have : b2n (grun p).2 ≤ 1 := by cases (grun p).2 <;> decide
  omega

/-- What holds of every receiver. -/
def Inv (r : St) : Prop := 126 ∉ r.piece ∧ (r.begun = false → r.piece = []) ∧ 2 ≤ r.most ∧ r.most ≤ 1508 ∧ r.accm < 4294967296
def Small (r : St) (k : Nat) : Prop := r.c0 ≤ k ∧ r.c1 ≤ k ∧ r.c2 ≤ k ∧ r.c3 ≤ k ∧ r.c4 ≤ k
theorem bump_piece (r : St) (k : Nat) : (r.bump k).piece = r.piece ∧ (r.bump k).begun = r.begun ∧ (r.bump k).most = r.most ∧ (r.bump k).accm = r.accm := by
  unfold St.bump; split <;> exact ⟨rfl, rfl, rfl, rfl⟩
theorem feed_fix (r : St) (b : UInt8) : (feed r b).most = r.most ∧ (feed r b).accm = r.accm := by
  unfold feed
  split
  · split
    · exact ⟨rfl, rfl⟩
    · exact ⟨(bump_piece r _).2.2.1, (bump_piece r _).2.2.2⟩
  · split <;> exact ⟨rfl, rfl⟩
theorem feed_inv {r : St} (h : Inv r) (b : UInt8) : Inv (feed r b) := by
  obtain ⟨h1, h2, h3, h4, h5⟩ := h
  have hf := feed_fix r b
  refine ⟨?_, ?_, by rw [hf.1]; exact h3, by rw [hf.1]; exact h4, by rw [hf.2]; exact h5⟩
  · unfold feed
    split
    · simp [St.ends]
    · rename_i hb
      split
      · show 126 ∉ r.piece ++ [b]
        rw [List.mem_append, List.mem_singleton]
        rintro (h | h)
        · exact h1 h
        · exact hb h.symm
      · exact h1
  · unfold feed
    split
    · intro h; cases h
    · split
      · rename_i hb
        intro h
        have h' : r.begun = false := h
        rw [h'] at hb
        cases hb
      · exact h2
theorem bump_small {r : St} {k : Nat} (h : Small r k) (j : Nat) : Small (r.bump j) (k + 1) := by
  obtain ⟨h0, h1, h2, h3, h4⟩ := h
  unfold St.bump Small
  split <;> (dsimp only; omega)
theorem small_mono {r : St} {k k' : Nat} (h : Small r k) (hk : k ≤ k') : Small r k' := by
  obtain ⟨h0, h1, h2, h3, h4⟩ := h
  exact ⟨by omega, by omega, by omega, by omega, by omega⟩
theorem feed_small {r : St} {k : Nat} (h : Small r k) (b : UInt8) : Small (feed r b) (k + 1) := by
  unfold feed
  split
  · split
    · exact small_mono h (by omega)
    · exact bump_small h _
  · split
    · exact small_mono h (by omega)
    · exact small_mono h (by omega)
theorem feeds_inv {r : St} (h : Inv r) (l : List UInt8) : Inv (feeds r l) := by
  induction l generalizing r with
  | nil => exact h
  | cons b l ih => exact ih (feed_inv h b)
theorem feeds_small {r : St} {k : Nat} (h : Small r k) (l : List UInt8) : Small (feeds r l) (k + l.length) := by
  induction l generalizing r k with
  | nil => exact h
  | cons b l ih =>
    have := ih (feed_small h b)
    rw [List.length_cons, show k + (l.length + 1) = k + 1 + l.length by omega]
    exact this
theorem feeds_fix (r : St) (l : List UInt8) : (feeds r l).most = r.most ∧ (feeds r l).accm = r.accm := by
  induction l generalizing r with
  | nil => exact ⟨rfl, rfl⟩
  | cons b l ih =>
    have h1 := ih (feed r b)
    have h2 := feed_fix r b
    exact ⟨h1.1.trans h2.1, h1.2.trans h2.2⟩
theorem gives_le (r : St) (b : UInt8) : (gives r b).length ≤ 1 := by
  unfold gives
  split
  · split
    · simp
    · split <;> simp
  · simp
theorem outs_le (r : St) (l : List UInt8) : (outs r l).length ≤ l.length := by
  induction l generalizing r with
  | nil => simp [outs]
  | cons b l ih =>
    rw [outs_cons, List.length_append, List.length_cons]
    have := ih (feed r b)
    have := gives_le r b
    omega
theorem gives_size {r : St} (h : Inv r) (b : UInt8) : ∀ s ∈ gives r b, s.size ≤ 1508 := by
  intro s hs
  unfold gives at hs
  split at hs
  · split at hs
    · cases hs
    · split at hs
      · rename_i hk
        have h1 := kind_zero hk
        have := h.2.2.2.1
        rw [List.mem_singleton] at hs
        subst hs
        rw [size_bOf]
        unfold infoOf
        rw [List.length_take]
        omega
      · cases hs
  · cases hs
theorem outs_size {r : St} (h : Inv r) (l : List UInt8) : ∀ s ∈ outs r l, s.size ≤ 1508 := by
  induction l generalizing r with
  | nil => intro s hs; cases hs
  | cons b l ih =>
    intro s hs
    rw [outs_cons] at hs
    rcases List.mem_append.1 hs with hs | hs
    · exact gives_size h b s hs
    · exact ih (feed_inv h b) s hs

theorem feed_none {r : St} (h : r.piece = []) : feed r 126 = r.ends ∧ gives r 126 = [] := by
  unfold feed gives
  rw [if_pos rfl, if_pos h, if_pos rfl, if_pos h]
  exact ⟨rfl, rfl⟩
theorem feed_some {r : St} (h : r.piece ≠ []) : feed r 126 = (r.bump (kind r.most r.piece)).ends := by
  unfold feed
  rw [if_pos rfl, if_neg h]
theorem gives_good {r : St} (h : r.piece ≠ []) (hk : kind r.most r.piece = 0) : gives r 126 = [bOf (infoOf r.piece)] := by
  unfold gives
  rw [if_pos rfl, if_neg h, if_pos hk]
theorem gives_bad {r : St} (hk : kind r.most r.piece ≠ 0) : gives r 126 = [] := by
  unfold gives
  rw [if_pos rfl]
  rw [if_neg hk, ite_self]
theorem feed_takes {r : St} {b : UInt8} (hb : b ≠ 126) (h : r.begun = true) (hm : mapped r.accm b = false) : feed r b = r.adds b := by
  unfold feed
  rw [if_neg hb, if_pos (by rw [h, hm]; rfl)]
theorem feed_lets {r : St} {b : UInt8} (hb : b ≠ 126) (h : r.begun = false ∨ mapped r.accm b = true) : feed r b = r := by
  unfold feed
  rw [if_neg hb, if_neg]
  rcases h with h | h <;> rw [h] <;> simp
theorem gives_takes {r : St} {b : UInt8} (hb : b ≠ 126) : gives r b = [] := by
  unfold gives
  rw [if_neg hb]
end Go.Proofs.Ytfcmpnfdgfdclaa.Hdl
