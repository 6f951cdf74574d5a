/- Put together: OptPure, IppPure. -/
import Derived.Test.YthoangihndplkaaPure
import Derived.Test.YthoangihndplkaaGOpts

/- Options as lists: their bytes, what bytes are, item by item. Plain mathematics, of no program. -/
namespace Go.Proofs.Ythoangihndplkaa.Opt
open Go.Proofs.Ythoangihndplkaa.Oct

def encO (o : Opt) : List UInt8 := o.1 :: UInt8.ofNat (2 + o.2.size) :: o.2.toList
def enc (l : List Opt) : List UInt8 := l.flatMap encO
def big (l : List Opt) : Bool := l.any fun o => decide (253 < o.2.size)
def wt : List Opt → Nat
  | [] => 0
  | o :: l => (2 + o.2.size) + wt l
def pE (l : List Opt) : Nat := if 64 < l.length then 4 else if big l = true then 2 else if 1496 < wt l then 5 else 0
def pA (l : List Opt) : List UInt8 := if pE l = 0 then enc l else []

theorem enc_nil : enc [] = [] := rfl
theorem enc_cons (o : Opt) (l : List Opt) : enc (o :: l) = encO o ++ enc l := rfl
theorem enc_append (l m : List Opt) : enc (l ++ m) = enc l ++ enc m := by unfold enc; rw [List.flatMap_append]
theorem encO_length (o : Opt) : (encO o).length = 2 + o.2.size := by unfold encO; rw [List.length_cons, List.length_cons, ← size_toList]; omega
theorem enc_length : ∀ l : List Opt, (enc l).length = wt l
  | [] => rfl
  | o :: l => by rw [enc_cons, List.length_append, encO_length, enc_length l, wt]
theorem wt_append : ∀ l m : List Opt, wt (l ++ m) = wt l + wt m
  | [], m => by simp [wt]
  | o :: l, m => by rw [List.cons_append, wt, wt, wt_append l m]; omega
theorem big_append (l m : List Opt) : big (l ++ m) = (big l || big m) := List.any_append
theorem big_false {l : List Opt} : big l = false ↔ ∀ o ∈ l, o.2.size ≤ 253 := by
  unfold big
  rw [List.any_eq_false]
  constructor
  · intro h o ho; have := h o ho; simp only [decide_eq_true_eq] at this; omega
  · intro h o ho; have := h o ho; simp only [decide_eq_true_eq]; omega
theorem wt_le : ∀ {l : List Opt}, big l = false → wt l ≤ 255 * l.length
  | [], _ => by simp [wt]
  | o :: l, h => by
    have h' := big_false.1 h
    have h1 := h' o (by simp)
    have h2 := wt_le (l := l) (big_false.2 fun x hx => h' x (by simp [hx]))
    rw [wt, List.length_cons]; omega
theorem take_wt (l : List Opt) (k : Nat) (h : k < l.length) : wt (l.take (k + 1)) = wt (l.take k) + (2 + l[k].2.size) := by
  rw [List.take_succ_eq_append_getElem h, wt_append]; rfl
theorem take_enc (l : List Opt) (k : Nat) (h : k < l.length) : enc (l.take (k + 1)) = enc (l.take k) ++ encO l[k] := by
  rw [List.take_succ_eq_append_getElem h, enc_append]; simp [enc]
theorem take_big (l : List Opt) (k : Nat) (h : k < l.length) : big (l.take (k + 1)) = (big (l.take k) || decide (253 < l[k].2.size)) := by
  rw [List.take_succ_eq_append_getElem h, big_append]; simp [big]
theorem big_of_take {l : List Opt} {k : Nat} (h : big (l.take k) = true) : big l = true := by
  have := big_append (l.take k) (l.drop k)
  rw [List.take_append_drop] at this
  rw [this, h]; rfl
theorem pE_zero {l : List Opt} : pE l = 0 ↔ l.length ≤ 64 ∧ big l = false ∧ wt l ≤ 1496 := by
  unfold pE
  constructor
  · intro h
    split at h
    · cases h
    · split at h
      · cases h
      · split at h
        · cases h
        · rename_i h1 h2 h3; exact ⟨by omega, by simpa using h2, by omega⟩
  · rintro ⟨h1, h2, h3⟩
    rw [if_neg (by omega), if_neg (by rw [h2]; decide), if_neg (by omega)]
theorem pA_yes {l : List Opt} (h : pE l = 0) : pA l = enc l := if_pos h
theorem pA_no {l : List Opt} (h : pE l ≠ 0) : pA l = [] := if_neg h
theorem pA_le (l : List Opt) : (pA l).length ≤ 1496 := by
  by_cases h : pE l = 0
  · rw [pA_yes h, enc_length]; exact (pE_zero.1 h).2.2
  · rw [pA_no h]; simp
theorem pE_join (l m : List Opt) (h : pE l ≠ 0 ∨ pE m ≠ 0) : pE (l ++ m) ≠ 0 := by
  intro e
  obtain ⟨h1, h2, h3⟩ := pE_zero.1 e
  rw [List.length_append] at h1
  rw [big_append, Bool.or_eq_false_iff] at h2
  rw [wt_append] at h3
  rcases h with h | h
  · exact h (pE_zero.2 ⟨by omega, h2.1, by omega⟩)
  · exact h (pE_zero.2 ⟨by omega, h2.2, by omega⟩)
theorem pE_full (l m : List Opt) (h : 64 < l.length + m.length) : pE (l ++ m) = 4 := by
  unfold pE
  rw [if_pos (by rw [List.length_append]; exact h)]
theorem pE_long (l m : List Opt) (hl : pE l = 0) (hm : pE m = 0) (h : l.length + m.length ≤ 64) (hw : 1496 < wt l + wt m) : pE (l ++ m) = 5 := by
  unfold pE
  rw [if_neg (by rw [List.length_append]; omega), if_neg (by rw [big_append, (pE_zero.1 hl).2.1, (pE_zero.1 hm).2.1]; decide), if_pos (by rw [wt_append]; exact hw)]
theorem pE_both (l m : List Opt) (hl : pE l = 0) (hm : pE m = 0) (h : l.length + m.length ≤ 64) (hw : wt l + wt m ≤ 1496) : pE (l ++ m) = 0 ∧ pA (l ++ m) = pA l ++ pA m := by
  have e : pE (l ++ m) = 0 := pE_zero.2 ⟨by rw [List.length_append]; exact h, by rw [big_append, (pE_zero.1 hl).2.1, (pE_zero.1 hm).2.1]; rfl, by rw [wt_append]; exact hw⟩
  exact ⟨e, by rw [pA_yes e, pA_yes hl, pA_yes hm, enc_append]⟩

/-- What stands at the head of bytes: an option, or what is wrong. -/
def rd (s : List UInt8) : Opt × Nat :=
  if s.length < 2 then ((0, ByteArray.empty), 6)
  else if (s.getD 1 0).toNat < 2 then ((0, ByteArray.empty), 7)
  else if s.length < (s.getD 1 0).toNat then ((0, ByteArray.empty), 6)
  else ((s.getD 0 0, bOf ((s.drop 2).take ((s.getD 1 0).toNat - 2))), 0)
abbrev Item := Nat × Opt × Nat
/-- The options of bytes, each with its place; the first one that is wrong is the last. -/
def seq (s : List UInt8) (p : Nat) : List Item :=
  if h : s = [] then [] else
    (p, (rd s).1, (rd s).2) :: if (rd s).2 = 0 then seq (s.drop (2 + (rd s).1.2.size)) (p + (2 + (rd s).1.2.size)) else []
termination_by s.length
decreasing_by
  have : 0 < s.length := List.length_pos_iff.2 h
  rw [List.length_drop]; omega
/-- What becomes of items, those of l having come. -/
def fi (N : Nat) : List Opt → List Item → List Opt × Nat × Nat
  | l, [] => (l, N, 0)
  | l, x :: r => if l.length = 64 then ([], x.1, 4) else if x.2.2 ≠ 0 then ([], x.1, x.2.2) else fi N (l ++ [x.2.1]) r
def got (s : List UInt8) : List Opt × Nat × Nat := if 1496 < s.length then ([], 0, 5) else fi s.length [] (seq s 0)
def gL (s : List UInt8) : List Opt := (got s).1
def gN (s : List UInt8) : Nat := (got s).2.1
def gE (s : List UInt8) : Nat := (got s).2.2

theorem seq_nil (p : Nat) : seq [] p = [] := by rw [seq, dif_pos rfl]
theorem seq_bad {s : List UInt8} (h : s ≠ []) (hb : (rd s).2 ≠ 0) (p : Nat) : seq s p = [(p, (rd s).1, (rd s).2)] := by rw [seq, dif_neg h, if_neg hb]
theorem seq_good {s : List UInt8} (h : s ≠ []) (hb : (rd s).2 = 0) (p : Nat) : seq s p = (p, (rd s).1, 0) :: seq (s.drop (2 + (rd s).1.2.size)) (p + (2 + (rd s).1.2.size)) := by rw [seq, dif_neg h, if_pos hb, hb]
theorem rd_cases (s : List UInt8) : (s.length < 2 ∧ rd s = ((0, ByteArray.empty), 6)) ∨ (2 ≤ s.length ∧ (s.getD 1 0).toNat < 2 ∧ rd s = ((0, ByteArray.empty), 7)) ∨ (2 ≤ s.length ∧ 2 ≤ (s.getD 1 0).toNat ∧ s.length < (s.getD 1 0).toNat ∧ rd s = ((0, ByteArray.empty), 6)) ∨
    (2 ≤ s.length ∧ 2 ≤ (s.getD 1 0).toNat ∧ (s.getD 1 0).toNat ≤ s.length ∧ rd s = ((s.getD 0 0, bOf ((s.drop 2).take ((s.getD 1 0).toNat - 2))), 0) ∧ 2 + (rd s).1.2.size = (s.getD 1 0).toNat) := by
  unfold rd
  by_cases h1 : s.length < 2
  · left; exact ⟨h1, if_pos h1⟩
  · by_cases h2 : (s.getD 1 0).toNat < 2
    · right; left; exact ⟨by omega, h2, by rw [if_neg h1, if_pos h2]⟩
    · by_cases h3 : s.length < (s.getD 1 0).toNat
      · right; right; left; exact ⟨by omega, by omega, h3, by rw [if_neg h1, if_neg h2, if_pos h3]⟩
      · right; right; right
        refine ⟨by omega, by omega, by omega, by rw [if_neg h1, if_neg h2, if_neg h3], ?_⟩
        rw [if_neg h1, if_neg h2, if_neg h3]
        simp only [size_bOf, List.length_take, List.length_drop]
        omega
/-- A good head is its option's bytes. -/
theorem rd_good {s : List UInt8} (h : (rd s).2 = 0) : s = encO (rd s).1 ++ s.drop (2 + (rd s).1.2.size) ∧ (rd s).1.2.size ≤ 253 ∧ 2 + (rd s).1.2.size ≤ s.length := by
  rcases rd_cases s with ⟨_, e⟩ | ⟨_, _, e⟩ | ⟨_, _, _, e⟩ | ⟨h1, h2, h3, e, hz⟩
  · rw [e] at h; cases h
  · rw [e] at h; cases h
  · rw [e] at h; cases h
  · match s, h1 with
    | a :: b :: d, _ =>
      simp only [List.getD_cons_zero, List.getD_cons_succ, List.length_cons] at h2 h3 e hz
      have hb := b.toNat_lt
      refine ⟨?_, by omega, by simp only [List.length_cons]; omega⟩
      rw [hz]
      unfold encO
      rw [hz, e]
      simp only [toList_bOf, List.drop_succ_cons, List.drop_zero, UInt8.ofNat_toNat, List.cons_append]
      congr 2
      have : (a :: b :: d).drop b.toNat = d.drop (b.toNat - 2) := by
        conv => lhs; rw [show b.toNat = (b.toNat - 2) + 1 + 1 by omega, List.drop_succ_cons, List.drop_succ_cons]
      rw [this, List.take_append_drop]
theorem rd_enc (o : Opt) (r : List UInt8) (h : o.2.size ≤ 253) : rd (encO o ++ r) = (o, 0) := by
  have e : (UInt8.ofNat (2 + o.2.size)).toNat = 2 + o.2.size := by rw [UInt8.toNat_ofNat']; omega
  unfold encO rd
  simp only [List.cons_append, List.length_cons, List.length_append, List.getD_cons_zero, List.getD_cons_succ, e, List.drop_succ_cons, List.drop_zero]
  rw [← size_toList, if_neg (by omega), if_neg (by omega), if_neg (by omega)]
  rw [show 2 + o.2.size - 2 = o.2.toList.length by rw [← size_toList]; omega, List.take_left, bOf_toList]
theorem seq_enc (o : Opt) (r : List UInt8) (p : Nat) (h : o.2.size ≤ 253) : seq (encO o ++ r) p = (p, o, 0) :: seq r (p + (2 + o.2.size)) := by
  have hr := rd_enc o r h
  rw [seq_good (by unfold encO; simp) (by rw [hr]), hr]
  simp only
  rw [List.drop_left' (encO_length o)]
theorem fi_enc (N : Nat) : ∀ (m l : List Opt) (p : Nat), l.length + m.length ≤ 64 → (∀ o ∈ m, o.2.size ≤ 253) → fi N l (seq (enc m) p) = (l ++ m, N, 0)
  | [], l, p, _, _ => by rw [enc_nil, seq_nil, fi, List.append_nil]
  | o :: m, l, p, h, hm => by
    rw [List.length_cons] at h
    rw [enc_cons, seq_enc o _ p (hm o (by simp)), fi, if_neg (by omega), if_neg (by simp), fi_enc N m (l ++ [o]) _ (by rw [List.length_append]; simp; omega) (fun x hx => hm x (by simp [hx]))]
    simp
/-- What was put is got. -/
theorem got_enc {l : List Opt} (h : pE l = 0) : got (pA l) = (l, (pA l).length, 0) := by
  obtain ⟨h1, h2, h3⟩ := pE_zero.1 h
  have hl := pA_le l
  unfold got
  rw [if_neg (by omega)]
  conv => lhs; rw [pA_yes h]
  rw [fi_enc _ l [] 0 (by simpa using h1) (big_false.1 h2), pA_yes h]; rfl
theorem fi_some (N : Nat) : ∀ (n : Nat) (s : List UInt8) (l : List Opt) (p : Nat), s.length ≤ n → l.length ≤ 64 → (fi N l (seq s p)).2.2 = 0 → ∃ m, fi N l (seq s p) = (l ++ m, N, 0) ∧ enc m = s ∧ l.length + m.length ≤ 64 ∧ ∀ o ∈ m, o.2.size ≤ 253
  | n, [], l, p, _, hl, _ => ⟨[], by rw [seq_nil, fi, List.append_nil], rfl, by simpa using hl, fun _ h => by cases h⟩
  | 0, a :: s, l, p, hn, _, _ => by simp at hn
  | n + 1, a :: s, l, p, hn, hl, h => by
    by_cases hb : (rd (a :: s)).2 = 0
    · have hg := rd_good hb
      rw [seq_good (by simp) hb] at h ⊢
      generalize ho : (rd (a :: s)).1 = o at *
      generalize hr : (a :: s).drop (2 + o.2.size) = r at *
      have hrl : r.length + (2 + o.2.size) = s.length + 1 := by rw [← hr, List.length_drop, List.length_cons]; have := hg.2.2; rw [List.length_cons] at this; omega
      rw [List.length_cons] at hn
      rw [fi] at h ⊢
      by_cases h64 : l.length = 64
      · rw [if_pos h64] at h; cases h
      · rw [if_neg h64, if_neg (by simp)] at h ⊢
        obtain ⟨m, e1, e2, e3, e4⟩ := fi_some N n r (l ++ [o]) _ (by omega) (by rw [List.length_append]; simp; omega) h
        refine ⟨o :: m, by rw [e1]; simp, by rw [enc_cons, e2]; exact hg.1.symm, by simp only [List.length_append, List.length_cons, List.length_nil] at e3 ⊢; omega, ?_⟩
        intro x hx
        rcases List.mem_cons.1 hx with rfl | hx
        · exact hg.2.1
        · exact e4 x hx
    · rw [seq_bad (by simp) hb, fi] at h
      split at h
      · cases h
      · exact absurd h hb
/-- What is got is put as it stood. -/
theorem enc_got {s : List UInt8} (h : gE s = 0) : got s = (gL s, s.length, 0) ∧ pE (gL s) = 0 ∧ pA (gL s) = s := by
  unfold gE gL got at *
  by_cases hs : 1496 < s.length
  · rw [if_pos hs] at h; cases h
  · rw [if_neg hs] at h ⊢
    obtain ⟨m, e1, e2, e3, e4⟩ := fi_some s.length s.length s [] 0 (Nat.le_refl _) (by simp) h
    rw [List.nil_append] at e1
    rw [e1]
    have hp : pE m = 0 := pE_zero.2 ⟨by simpa using e3, big_false.2 e4, by rw [← enc_length, e2]; omega⟩
    exact ⟨rfl, hp, by rw [pA_yes hp]; exact e2⟩
theorem fi_no (N : Nat) : ∀ (n : Nat) (s : List UInt8) (l : List Opt) (p : Nat), s.length ≤ n → p + s.length ≤ N → (fi N l (seq s p)).2.2 ≠ 0 → (fi N l (seq s p)).1 = [] ∧ (fi N l (seq s p)).2.1 ≤ N
  | n, [], l, p, _, _, h => by rw [seq_nil, fi] at h; exact absurd rfl h
  | 0, a :: s, l, p, hn, _, _ => by simp at hn
  | n + 1, a :: s, l, p, hn, hN, h => by
    rw [List.length_cons] at hn hN
    by_cases hb : (rd (a :: s)).2 = 0
    · have hg := rd_good hb
      rw [seq_good (by simp) hb, fi] at h ⊢
      by_cases h64 : l.length = 64
      · rw [if_pos h64]; exact ⟨rfl, by simp only; omega⟩
      · rw [if_neg h64, if_neg (by simp)] at h ⊢
        refine fi_no N n _ _ _ ?_ ?_ h
        · rw [List.length_drop, List.length_cons]; omega
        · have := hg.2.2; rw [List.length_cons] at this; rw [List.length_drop, List.length_cons]; omega
    · rw [seq_bad (by simp) hb, fi] at h ⊢
      split
      · exact ⟨rfl, by simp only; omega⟩
      · exact ⟨rfl, by simp only; omega⟩
theorem got_no {s : List UInt8} (h : gE s ≠ 0) : gL s = [] ∧ gN s ≤ s.length := by
  unfold gE gL gN got at *
  by_cases hs : 1496 < s.length
  · rw [if_pos hs]; exact ⟨rfl, Nat.zero_le _⟩
  · rw [if_neg hs] at h ⊢
    exact fi_no s.length s.length s [] 0 (Nat.le_refl _) (by omega) h
theorem gL_le (s : List UInt8) : (gL s).length ≤ 64 := by
  by_cases h : gE s = 0
  · exact (pE_zero.1 (enc_got h).2.1).1
  · rw [(got_no h).1]; simp
theorem gL_size (s : List UInt8) : ∀ o ∈ gL s, o.2.size ≤ 253 := by
  by_cases h : gE s = 0
  · exact big_false.1 (pE_zero.1 (enc_got h).2.1).2.1
  · rw [(got_no h).1]; intro o ho; cases ho
theorem gN_le (s : List UInt8) : gN s ≤ s.length := by
  by_cases h : gE s = 0
  · unfold gN; rw [(enc_got h).1]; exact Nat.le_refl _
  · exact (got_no h).2
theorem gE_le (s : List UInt8) : gE s ≤ 7 := by
  have rdle : ∀ t : List UInt8, (rd t).2 ≤ 7 := by
    intro t
    rcases rd_cases t with ⟨_, e⟩ | ⟨_, _, e⟩ | ⟨_, _, _, e⟩ | ⟨_, _, _, e, _⟩ <;> rw [e] <;> simp only <;> omega
  have key : ∀ (N n : Nat) (s : List UInt8) (l : List Opt) (p : Nat), s.length ≤ n → (fi N l (seq s p)).2.2 ≤ 7 := by
    intro N n
    induction n with
    | zero =>
      intro s l p hn
      have : s = [] := List.eq_nil_of_length_eq_zero (by omega)
      subst this; rw [seq_nil, fi]; exact Nat.zero_le _
    | succ n ih =>
      intro s l p hn
      cases s with
      | nil => rw [seq_nil, fi]; exact Nat.zero_le _
      | cons a s =>
        rw [List.length_cons] at hn
        by_cases hb : (rd (a :: s)).2 = 0
        · rw [seq_good (by simp) hb, fi]
          by_cases h64 : l.length = 64
          · rw [if_pos h64]; simp only; omega
          · rw [if_neg h64, if_neg (by simp)]
            exact ih _ _ _ (by rw [List.length_drop, List.length_cons]; omega)
        · rw [seq_bad (by simp) hb, fi]
          split
          · simp only; omega
          · exact rdle _
  unfold gE got
  split
  · decide
  · exact key _ _ _ _ _ (Nat.le_refl _)

/-- Items that have come and are right. -/
def okI (pre : List Item) : Prop := ∀ x ∈ pre, x.2.2 = 0
def optsI (pre : List Item) : List Opt := pre.map fun x => x.2.1
theorem fi_pre (N : Nat) : ∀ (pre rest : List Item) (l : List Opt), okI pre → l.length + pre.length ≤ 64 → fi N l (pre ++ rest) = fi N (l ++ optsI pre) rest
  | [], rest, l, _, _ => by simp [optsI]
  | x :: pre, rest, l, h, hl => by
    rw [List.length_cons] at hl
    rw [List.cons_append, fi, if_neg (by omega), if_neg (by simp [h x (by simp)]), fi_pre N pre rest _ (fun y hy => h y (by simp [hy])) (by rw [List.length_append]; simp; omega)]
    simp [optsI]
theorem optsI_snoc (pre : List Item) (x : Item) : optsI (pre ++ [x]) = optsI pre ++ [x.2.1] := by simp [optsI]
theorem okI_snoc {pre : List Item} {x : Item} (h : okI pre) (hx : x.2.2 = 0) : okI (pre ++ [x]) := by
  intro y hy
  rcases List.mem_append.1 hy with hy | hy
  · exact h y hy
  · rw [List.mem_singleton] at hy; subst hy; exact hx
/-- All items have come. -/
theorem got_done {s : List UInt8} (hs : s.length ≤ 1496) (h : okI (seq s 0)) (hl : (seq s 0).length ≤ 64) : got s = (optsI (seq s 0), s.length, 0) := by
  unfold got
  rw [if_neg (by omega)]
  have := fi_pre s.length (seq s 0) [] [] h (by simpa using hl)
  rw [List.append_nil, List.nil_append] at this
  rw [this, fi]
/-- An item that stops. -/
theorem got_stop {s : List UInt8} (hs : s.length ≤ 1496) {pre : List Item} {x : Item} (hp : pre ++ [x] <+: seq s 0) (h : okI pre) (hl : pre.length ≤ 64) (hx : pre.length = 64 ∨ x.2.2 ≠ 0) : got s = ([], x.1, if pre.length = 64 then 4 else x.2.2) := by
  obtain ⟨r, hr⟩ := hp
  unfold got
  rw [if_neg (by omega), ← hr, List.append_assoc, fi_pre s.length pre _ [] h (by simpa using hl), List.nil_append]
  have hlen : (optsI pre).length = pre.length := by simp [optsI]
  rw [List.singleton_append, fi, hlen]
  by_cases h64 : pre.length = 64
  · rw [if_pos h64, if_pos h64]
  · rw [if_neg h64, if_neg h64]
    rcases hx with hx | hx
    · exact absurd hx h64
    · rw [if_pos hx]
/-- The first option of a type; the options of others. -/
def fd (t : UInt8) (l : List Opt) : Option Opt := l.find? fun o => o.1 == t
def fA (t : UInt8) (l : List Opt) : Opt := (fd t l).getD (0, ByteArray.empty)
def fB (t : UInt8) (l : List Opt) : Bool := (fd t l).isSome
def wo (t : UInt8) (l : List Opt) : List Opt := l.filter fun o => !(o.1 == t)
theorem wo_snoc (t : UInt8) (l : List Opt) (k : Nat) (h : k < l.length) : wo t (l.take (k + 1)) = wo t (l.take k) ++ (if l[k].1 == t then [] else [l[k]]) := by
  rw [List.take_succ_eq_append_getElem h]
  unfold wo
  rw [List.filter_append]
  congr 1
  by_cases e : (l[k].1 == t) = true
  · rw [if_pos e]; simp [e]
  · rw [if_neg e]; simp at e; simp [e]
theorem wo_le (t : UInt8) (l : List Opt) : (wo t l).length ≤ l.length := List.length_filter_le _ _
end Go.Proofs.Ythoangihndplkaa.Opt

/- A policy of IPCP's options: what is asked, what is said of each option, what a reply changes. Plain mathematics, of no program. -/
namespace Go.Proofs.Ythoangihndplkaa.Ipp
open Go.Proofs.Ythoangihndplkaa.Oct Go.Proofs.Ythoangihndplkaa.Opt Go.Proofs.Ythoangihndplkaa.Ipc

/-- A configuration. -/
structure Conf where
  addr : UInt32
  peer : UInt32
  dns1 : UInt32
  dns2 : UInt32
  want : Bool
  mn : Int
deriving DecidableEq
def cv (c : Conf) : List Value := [.int .u32 c.addr.toNat, .int .u32 c.peer.toNat, .int .u32 c.dns1.toNat, .int .u32 c.dns2.toNat, .bool c.want, .int .i64 c.mn]
/-- A policy: its wishes, conf, what was acked, what the peer's is, Naks in a row. -/
structure Po where
  w : Ipc
  c : Conf
  mine : Ipc
  peer : Ipc
  naks : Nat
/-- Its cells, the program's and the document's. -/
def pv (p : Po) : List Value := lv p.w ++ (cv p.c ++ (lv p.mine ++ (lv p.peer ++ [.int .i64 p.naks])))
def dv (p : Po) : List Value := cv p.c ++ (lv p.w ++ (lv p.mine ++ (lv p.peer ++ [.int .i64 p.naks])))

/-- Whether a configuration is valid. -/
def mayC (c : Conf) : Bool := decide (1 ≤ c.mn) && decide (c.mn ≤ 10)
def wish (c : Conf) : Ipc := ⟨true, c.addr, c.want, 0, c.want, 0⟩
def newP (c : Conf) : Po := ⟨wish c, c, lz, lz, 0⟩
def req (p : Po) : List Opt := put p.w

/-! ### what is said of an option -/
def lo (o : Opt) : Ipc := gL [o]
def ad (o : Opt) : UInt32 := UInt32.ofNat (val o.2.toList)
/-- The address that an option must have; 0: any. -/
def giv (p : Po) (t : UInt8) : UInt32 := if t = 3 then p.c.peer else if t = 129 then p.c.dns1 else p.c.dns2
def or32 (a b : UInt32) : UInt32 := if a = 0 then b else a
/-- What the program's function says: a struct. -/
def bet (p : Po) (t : UInt8) (x : Ipc) : Ipc :=
  if t = 3 then ⟨or32 p.c.peer x.addr != 0, or32 p.c.peer x.addr, false, 0, false, 0⟩
  else if t = 129 then ⟨false, 0, p.c.dns1 != 0, p.c.dns1, false, 0⟩
  else ⟨false, 0, false, 0, p.c.dns2 != 0, p.c.dns2⟩
/-- The address that is suggested. -/
def sa (p : Po) (t : UInt8) (x : Ipc) : UInt32 := if t = 3 then or32 p.c.peer x.addr else giv p t
def zo : Opt := (0, ByteArray.empty)
def ok (p : Po) (o : Opt) : Bool := good o && sa p o.1 (lo o) != 0
def sug (p : Po) (o : Opt) : Opt := (o.1, bOf (numS (sa p o.1 (lo o)).toNat 4))
def imp (p : Po) (o : Opt) : Opt := if ok p o then sug p o else zo
/-- How a received option is judged. -/
structure Ver where
  got : Opt
  rej : Bool
  bet : Opt
deriving DecidableEq
def seen (l : List Opt) (t : UInt8) : Bool := l.any fun o => o.1 == t
def ver (p : Po) (l : List Opt) (o : Opt) : Ver := ⟨o, seen l o.1 || !ok p o, imp p o⟩
def vs (p : Po) (l : List Opt) : List Ver := (List.range l.length).map fun i => ver p (l.take i) (l.getD i zo)
def poor (v : Ver) : Bool := !v.rej && !decide (v.bet = v.got)
def refs (l : List Ver) : List Opt := l.filterMap fun v => if v.rej then some v.got else none
def poors (l : List Ver) : List Opt := l.filterMap fun v => if poor v then some v.got else none
def insts (l : List Ver) : List Opt := l.filterMap fun v => if poor v then some v.bet else none
/-- An address that lacks. -/
def miss (p : Po) (l : List Opt) : List Opt := if fB 3 l then [] else put (bet p 3 lz)
def sugs (p : Po) (l : List Opt) : List Opt := insts (vs p l) ++ miss p l

/-- Judge: which way. -/
inductive Way | rej | nak | poor | ack
deriving DecidableEq
def way (p : Po) (l : List Opt) : Way := if refs (vs p l) ≠ [] then .rej else if sugs p l ≠ [] ∧ (p.naks : Int) < p.c.mn then .nak else if poors (vs p l) ≠ [] then .poor else .ack
def jC (p : Po) (l : List Opt) : Nat := match way p l with | .rej => 4 | .nak => 3 | .poor => 4 | .ack => 2
def jA (p : Po) (l : List Opt) : List Opt := match way p l with | .rej => refs (vs p l) | .nak => sugs p l | .poor => poors (vs p l) | .ack => l
def jP (p : Po) (l : List Opt) : Po := match way p l with | .rej => { p with naks := 0 } | .nak => { p with naks := p.naks + 1 } | .poor => { p with naks := 0 } | .ack => { p with naks := 0, peer := gL l }

/-! ### replies -/
def akB (p : Po) (l : List Opt) : Bool := decide (l = req p)
def akP (p : Po) (l : List Opt) : Po := if akB p l then { p with mine := p.w } else p
def nkB (l : List Opt) : Bool := decide (l ≠ []) && gE l == 0
/-- The wishes, once those of the types in m were gone by. -/
def nkW (c : Conf) (w x : Ipc) (m : UInt8 → Bool) : Ipc :=
  { w with
    addr := if m 3 && c.addr == 0 then or32 x.addr w.addr else w.addr
    dns1 := if m 129 then or32 x.dns1 w.dns1 else w.dns1
    dns2 := if m 131 then or32 x.dns2 w.dns2 else w.dns2 }
def nkP (p : Po) (l : List Opt) : Po := if nkB l then { p with w := nkW p.c p.w (gL l) (fun t => has t p.w) } else p
def dropW (w : Ipc) (t : UInt8) : Ipc :=
  if t = 3 then { w with ha := false, addr := 0 } else if t = 129 then { w with h1 := false, dns1 := 0 } else if t = 131 then { w with h2 := false, dns2 := 0 } else w
def dropP (p : Po) (o : Opt) : Po := { p with w := dropW p.w o.1 }
/-- Whether all of l stands in whole, in its order. -/
def part : List Opt → List Opt → Bool
  | [], _ => true
  | _ :: _, [] => false
  | o :: l, x :: r => if x = o then part l r else part (o :: l) r
def rjB (p : Po) (l : List Opt) : Bool := decide (l ≠ []) && part l (req p)
def rjP (p : Po) (l : List Opt) : Po := if rjB p l then l.foldl dropP p else p

/-! ### rows of verdicts -/
theorem vs_nil (p : Po) : vs p [] = [] := rfl
theorem vs_snoc (p : Po) (l : List Opt) (k : Nat) (o : Opt) (h : l[k]? = some o) : vs p (l.take (k + 1)) = vs p (l.take k) ++ [ver p (l.take k) o] := by
  obtain ⟨hk, rfl⟩ := List.getElem?_eq_some_iff.1 h
  unfold vs
  have e1 : (l.take (k + 1)).length = k + 1 := by rw [List.length_take]; omega
  have e0 : (l.take k).length = k := by rw [List.length_take]; omega
  rw [e1, e0, List.range_succ, List.map_append, List.map_cons, List.map_nil]
  congr 1
  · apply List.map_congr_left
    intro i hi
    have hi' : i < k := List.mem_range.1 hi
    rw [List.take_take, List.take_take, Nat.min_eq_left (by omega), Nat.min_eq_left (by omega)]
    congr 1
    rw [List.getD_eq_getElem?_getD, List.getD_eq_getElem?_getD, List.getElem?_take_of_lt (by omega), List.getElem?_take_of_lt hi']
  · rw [List.take_take, Nat.min_eq_left (by omega)]
    congr 2
    rw [List.getD_eq_getElem?_getD, List.getElem?_take_of_lt (by omega), List.getElem?_eq_getElem hk]
    rfl
theorem vs_length (p : Po) (l : List Opt) : (vs p l).length = l.length := by unfold vs; simp
theorem seen_snoc (l : List Opt) (k : Nat) (o : Opt) (h : l[k]? = some o) (t : UInt8) : seen (l.take (k + 1)) t = (seen (l.take k) t || o.1 == t) := by
  obtain ⟨hk, rfl⟩ := List.getElem?_eq_some_iff.1 h
  unfold seen
  rw [List.take_succ_eq_append_getElem hk, List.any_append]
  simp

/-! ### one option -/
theorem st_one (o : Opt) : st [o] = if good o then some (say lz o, []) else some (lz, [o]) := by
  have h := st_snoc [] o
  rw [List.nil_append, st_nil] at h
  rw [h]
  unfold Ipc.step
  cases hg : good o
  · simp
  · have hh : has o.1 lz = false := by rcases known_cases (good_known hg) with e | e | e <;> rw [e] <;> rfl
    simp only [if_true, hh, Bool.false_eq_true, if_false]
theorem lo_good {o : Opt} (h : good o = true) : lo o = say lz o := by unfold lo Ipc.gL; rw [st_one, if_pos h]
theorem lo_bad {o : Opt} (h : good o = false) : lo o = lz := by unfold lo Ipc.gL; rw [st_one, h]; rfl
theorem lo_addr {o : Opt} (h : good o = true) (h3 : o.1 = 3) : (lo o).addr = ad o := by
  rw [lo_good h]
  unfold say Ipc.set
  rw [if_pos h3]
  rfl
theorem ok_good {p : Po} {o : Opt} (h : ok p o = true) : good o = true := (Bool.and_eq_true_iff.1 h).1
theorem ok_known {p : Po} {o : Opt} (h : ok p o = true) : known o.1 = true := good_known (ok_good h)
theorem bne0 {v : UInt32} (h : (v != 0) = false) : v = 0 := by simpa using h
/-- What the functions say may be put, and is found again. -/
theorem bet_may (p : Po) (t : UInt8) (x : Ipc) : may (bet p t x) = true := by
  rw [may_iff]
  unfold bet
  split
  · exact ⟨fun h => bne0 h, fun _ => rfl, fun _ => rfl⟩
  · split
    · exact ⟨fun _ => rfl, fun h => bne0 h, fun _ => rfl⟩
    · exact ⟨fun _ => rfl, fun _ => rfl, fun h => bne0 h⟩
theorem put3 (b : Bool) (a : UInt32) : put ⟨b, a, false, 0, false, 0⟩ = if b then [(3, bOf (numS a.toNat 4))] else [] := by cases b <;> rfl
theorem put129 (b : Bool) (a : UInt32) : put ⟨false, 0, b, a, false, 0⟩ = if b then [(129, bOf (numS a.toNat 4))] else [] := by cases b <;> rfl
theorem put131 (b : Bool) (a : UInt32) : put ⟨false, 0, false, 0, b, a⟩ = if b then [(131, bOf (numS a.toNat 4))] else [] := by cases b <;> rfl
theorem put_bet {p : Po} {t : UInt8} (ht : known t = true) (x : Ipc) : put (bet p t x) = if sa p t x != 0 then [(t, bOf (numS (sa p t x).toNat 4))] else [] := by
  rcases known_cases ht with e | e | e <;> subst e
  · exact put3 _ _
  · exact put129 _ _
  · exact put131 _ _
theorem find_bet {p : Po} {o : Opt} (h : good o = true) : fA o.1 (put (bet p o.1 (lo o))) = imp p o ∧ fB o.1 (put (bet p o.1 (lo o))) = ok p o := by
  rw [put_bet (good_known h)]
  unfold imp ok sug
  rw [h]
  cases hb : (sa p o.1 (lo o) != 0)
  · exact ⟨rfl, rfl⟩
  · have hf : fd o.1 [((o.1, bOf (numS (sa p o.1 (lo o)).toNat 4)) : Opt)] = some (o.1, bOf (numS (sa p o.1 (lo o)).toNat 4)) := by
      unfold fd
      rw [List.find?_cons, show ((((o.1, bOf (numS (sa p o.1 (lo o)).toNat 4)) : Opt).1 == o.1)) = true from beq_self_eq_true _]
    simp only [if_true, Bool.and_self]
    unfold fA fB
    rw [hf]
    exact ⟨rfl, rfl⟩
theorem sug_size (p : Po) (o : Opt) : (sug p o).2.size = 4 := by
  show (bOf (numS _ 4)).size = 4
  rw [size_bOf, numS_length]
theorem imp_size (p : Po) (o : Opt) : (imp p o).2.size ≤ 4 := by
  unfold imp
  split
  · rw [sug_size]; exact Nat.le_refl _
  · exact Nat.zero_le _
theorem miss_eq (p : Po) (l : List Opt) : miss p l = if fB 3 l then [] else if p.c.peer != 0 then [(3, bOf (numS p.c.peer.toNat 4))] else [] := by
  unfold miss
  split
  · rfl
  · rw [put_bet rfl]
    have : sa p 3 lz = p.c.peer := by
      show or32 p.c.peer 0 = _
      unfold or32
      split
      · rename_i e; exact e.symm
      · rfl
    rw [this]
end Go.Proofs.Ythoangihndplkaa.Ipp
