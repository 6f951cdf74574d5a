/- Put together: Opts, OptPure, OptAs, OptAt, IpcPure, IppPure, LcoPure, PolPure. -/
import Derived.Test.YtpppggicihfbgaaGreatGRow
import Derived.Deep.Slices
import Derived.Deep.Fields
import Derived.SizedLaws
import Derived.WalkKit
import Derived.ProofKit
import Derived.Lib.SmallJoins
import Derived.Test.YtpppggicihfbgaaGreatGPure
import Derived.Test.YtpppggicihfbgaaGreatProg
import Derived.WalkSpells
import Derived.WalkLawsBesides
import Derived.RegionTactic
import Derived.ChangeAlike
import Derived.Deep.QuietTactic
import Derived.Deep.Quiet
import Derived.BigQuiet
import Derived.Lib.Hide
import Derived.OwnWalk
import Derived.Maps.AppendAt
import Derived.KernelRfl

/- Rows of options (a byte and a text each) in memory: among the arguments, of the call's own. Of no program. -/
namespace Go.Proofs.YtpppggicihfbgaaGreat.Opt
open Go.ChangeShapes Go.WideShapes Go.ChangeAt Go.RowKit Go.Joins Go.Deep Go.Proofs.YtpppggicihfbgaaGreat.Oct

abbrev Opt := UInt8 × ByteArray
def optV (o : Opt) : List Value := [.int .u8 o.1.toNat, .string o.2]
def optsV (l : List Opt) : List Value := l.flatMap optV
theorem optsV_append (l m : List Opt) : optsV (l ++ m) = optsV l ++ optsV m := by unfold optsV; rw [List.flatMap_append]
theorem optsV_one (o : Opt) : optsV [o] = [.int .u8 o.1.toNat, .string o.2] := by simp [optsV, optV]
theorem optsV_length : ∀ l : List Opt, (optsV l).length = l.length * 2
  | [] => rfl
  | o :: l => by
    show (optV o ++ optsV l).length = _
    rw [List.length_append, optsV_length l, List.length_cons]
    simp [optV]; omega
theorem optsV_ones (l : List Opt) : ∀ u ∈ optsV l, u.oneCell' = true := by
  intro u hu
  obtain ⟨o, _, ho⟩ := List.mem_flatMap.1 hu
  simp [optV] at ho
  rcases ho with rfl | rfl <;> rfl
theorem optsV_at : ∀ (l : List Opt) (j : Nat) (h : j < l.length), (optsV l)[j * 2]? = some (.int .u8 l[j].1.toNat) ∧ (optsV l)[j * 2 + 1]? = some (.string l[j].2)
  | o :: l, 0, _ => ⟨rfl, rfl⟩
  | o :: l, j + 1, h => by
    have := optsV_at l j (by simpa using h)
    have e : optsV (o :: l) = .int .u8 o.1.toNat :: .string o.2 :: optsV l := rfl
    rw [e, show (j + 1) * 2 = j * 2 + 1 + 1 by omega]
    simpa using this

def Opts (w : World) (B : Nat) (A : Option Addr) (n : Nat) (l : List Opt) : Prop :=
  l.length = n ∧ (∀ o ∈ l, o.2.size ≤ 140737488351232) ∧ (0 < n → ∃ ad, A = some ad ∧ ad.block < B ∧ ∀ j (h : j < l.length), w.cell? (ad.add (j * 2)) = some (.int .u8 l[j].1.toNat) ∧ w.cell? ⟨(ad.add (j * 2)).block, (ad.add (j * 2)).off + 1, none⟩ = some (.string l[j].2))
theorem Opts.below {w w' : World} {B : Nat} {A : Option Addr} {n : Nat} {l : List Opt} (h : Opts w B A n l) (hb : Below B w w') : Opts w' B A n l :=
  ⟨h.1, h.2.1, fun hn => by
    obtain ⟨ad, e, hB, hc⟩ := h.2.2 hn
    exact ⟨ad, e, hB, fun j hj => ⟨(hb.cell (by rw [Oct.block_add]; exact hB)).trans (hc j hj).1, (hb.cell (by show (ad.add (j * 2)).block < B; rw [Oct.block_add]; exact hB)).trans (hc j hj).2⟩⟩⟩
theorem Opts.more {w : World} {B B' : Nat} {A : Option Addr} {n : Nat} {l : List Opt} (h : Opts w B A n l) (hb : B ≤ B') : Opts w B' A n l :=
  ⟨h.1, h.2.1, fun hn => by
    obtain ⟨ad, e, hB, hc⟩ := h.2.2 hn
    exact ⟨ad, e, by omega, hc⟩⟩
theorem Opts.callee {w w' : World} {B : Nat} {A : Option Addr} {n : Nat} {l : List Opt} (h : Opts w B A n l) (hb : Below w.heap.size w w') (hB : B ≤ w.heap.size) : Opts w' B A n l := h.below (hb.mono hB)
theorem Opts.at_ {w : World} {B : Nat} {A : Option Addr} {n k : Nat} {l : List Opt} (h : Opts w B A n l) (hk : k < n) :
    ∃ ad o, A = some ad ∧ ad.block < B ∧ l[k]? = some o ∧ o.2.size ≤ 140737488351232 ∧ w.cell? (ad.add (k * 2)) = some (.int .u8 o.1.toNat) ∧ w.cell? ⟨(ad.add (k * 2)).block, (ad.add (k * 2)).off + 1, none⟩ = some (.string o.2) := by
  obtain ⟨ad, e, hB, hc⟩ := h.2.2 (by omega)
  have hl : k < l.length := by rw [h.1]; exact hk
  exact ⟨ad, l[k], e, hB, List.getElem?_eq_getElem hl, h.2.1 _ (List.getElem_mem hl), hc k hl⟩
theorem Opts.next {w w' : World} {A : Option Addr} {n : Nat} {l : List Opt} (h : Opts w w.heap.size A n l) (hb : Below w.heap.size w w') : Opts w' w'.heap.size A n l := (h.below hb).more hb.size
theorem Opts.laid {w : World} {A : Option Addr} {n : Nat} {l : List Opt} (h : Opts w w.heap.size A n l) (o : Obj) : Opts (w.alloc o) (w.alloc o).heap.size A n l := h.next ((Below.refl _ w).alloc (Nat.le_refl _) o)
theorem opts_nil (w : World) (B : Nat) : Opts w B none 0 [] := ⟨rfl, (fun _ h => by cases h), (fun h => absurd h (Nat.lt_irrefl _))⟩
theorem opts_own {w : World} {base n : Nat} {e : TypeId} {v : Value} {l : List Opt} (h : w.ownsRow base e 2 v n (optsV l)) (hz : ∀ o ∈ l, o.2.size ≤ 140737488351232) :
    ∃ A c, v = .slice A n c ∧ Opts w w.heap.size A n l := by
  have hl : l.length = n := by have := h.1; rw [optsV_length] at this; omega
  rcases h.2 with ⟨rfl, rfl⟩ | ⟨g, cap, cur, rfl, hg, hh, _⟩
  · exact ⟨none, 0, rfl, hl, hz, fun h0 => absurd h0 (by omega)⟩
  · have hlt : g < w.heap.size := (Array.getElem?_eq_some_iff.1 hh).1
    refine ⟨some ⟨g, 0, none⟩, cap, rfl, hl, hz, fun _ => ⟨_, rfl, hlt, fun j hj => ?_⟩⟩
    have hv := optsV_at l j hj
    have c0 := h.cells (g := g) rfl (j * 2) _ hv.1
    have c1 := h.cells (g := g) rfl (j * 2 + 1) _ hv.2
    refine ⟨c0, ?_⟩
    rw [← add_add] at c1
    exact c1
theorem opts_cells {w : World} {B n : Nat} {ad : Addr} {l : List Opt} (h : Opts w B (some ad) n l) : ∀ j u, (optsV l)[j]? = some u → w.cell? (ad.add j) = some u := by
  intro j u hu
  have hj : j / 2 < l.length := by
    have := (List.getElem?_eq_some_iff.1 hu).1
    rw [optsV_length] at this
    omega
  obtain ⟨ad', e, _, hc⟩ := h.2.2 (by have := h.1; omega)
  cases e
  obtain ⟨c0, c1⟩ := hc _ hj
  obtain ⟨v0, v1⟩ := optsV_at l _ hj
  rcases Nat.mod_two_eq_zero_or_one j with hm | hm
  · rw [show j / 2 * 2 = j by omega] at v0 c0
    rw [c0]; rw [v0] at hu; exact hu
  · rw [show j / 2 * 2 + 1 = j by omega] at v1
    rw [v1] at hu
    rw [← hu, ← c1, show j = j / 2 * 2 + 1 by omega, ← add_add]
    rw [show (j / 2 * 2 + 1) / 2 * 2 = j / 2 * 2 by omega]
    rfl
theorem take_one {l : List Value} {i : Nat} {v : Value} (h : l[i]? = some v) : (l.drop i).take 1 = [v] := by
  obtain ⟨hi, rfl⟩ := List.getElem?_eq_some_iff.1 h
  rw [List.drop_eq_getElem_cons hi]
  rfl
theorem u8_of {z : Int} (h0 : 0 ≤ z) (h : z ≤ 255) : ∃ c : UInt8, z = (c.toNat : Int) :=
  ⟨UInt8.ofNat z.toNat, by rw [UInt8.toNat_ofNat']; omega⟩
end Go.Proofs.YtpppggicihfbgaaGreat.Opt

/- Options as lists: their bytes, what bytes are, item by item. Plain mathematics, of no program. -/
namespace Go.Proofs.YtpppggicihfbgaaGreat.Opt
open Go.Proofs.YtpppggicihfbgaaGreat.Oct

def encO (o : Opt) : List UInt8 := o.1 :: UInt8.ofNat (2 + o.2.size) :: o.2.toList
def enc (l : List Opt) : List UInt8 := l.flatMap encO
def big (l : List Opt) : Bool := l.any fun o => decide (253 < o.2.size)
def wt : List Opt → Nat
  | [] => 0
  | o :: l => (2 + o.2.size) + wt l
def pE (l : List Opt) : Nat := if 64 < l.length then 4 else if big l = true then 2 else if 1496 < wt l then 5 else 0
def pA (l : List Opt) : List UInt8 := if pE l = 0 then enc l else []

theorem enc_nil : enc [] = [] := rfl
theorem enc_cons (o : Opt) (l : List Opt) : enc (o :: l) = encO o ++ enc l := rfl
theorem enc_append (l m : List Opt) : enc (l ++ m) = enc l ++ enc m := by unfold enc; rw [List.flatMap_append]
theorem encO_length (o : Opt) : (encO o).length = 2 + o.2.size := by unfold encO; rw [List.length_cons, List.length_cons, ← size_toList]; omega
theorem enc_length : ∀ l : List Opt, (enc l).length = wt l
  | [] => rfl
  | o :: l => by rw [enc_cons, List.length_append, encO_length, enc_length l, wt]
theorem wt_append : ∀ l m : List Opt, wt (l ++ m) = wt l + wt m
  | [], m => by simp [wt]
  | o :: l, m => by rw [List.cons_append, wt, wt, wt_append l m]; omega
theorem big_append (l m : List Opt) : big (l ++ m) = (big l || big m) := List.any_append
theorem big_false {l : List Opt} : big l = false ↔ ∀ o ∈ l, o.2.size ≤ 253 := by
  unfold big
  rw [List.any_eq_false]
  constructor
  · intro h o ho; have := h o ho; simp only [decide_eq_true_eq] at this; omega
  · intro h o ho; have := h o ho; simp only [decide_eq_true_eq]; omega
theorem take_wt (l : List Opt) (k : Nat) (h : k < l.length) : wt (l.take (k + 1)) = wt (l.take k) + (2 + l[k].2.size) := by
  rw [List.take_succ_eq_append_getElem h, wt_append]; rfl
theorem take_enc (l : List Opt) (k : Nat) (h : k < l.length) : enc (l.take (k + 1)) = enc (l.take k) ++ encO l[k] := by
  rw [List.take_succ_eq_append_getElem h, enc_append]; simp [enc]
theorem take_big (l : List Opt) (k : Nat) (h : k < l.length) : big (l.take (k + 1)) = (big (l.take k) || decide (253 < l[k].2.size)) := by
  rw [List.take_succ_eq_append_getElem h, big_append]; simp [big]
theorem big_of_take {l : List Opt} {k : Nat} (h : big (l.take k) = true) : big l = true := by
  have := big_append (l.take k) (l.drop k)
  rw [List.take_append_drop] at this
  rw [this, h]; rfl
theorem pE_zero {l : List Opt} : pE l = 0 ↔ l.length ≤ 64 ∧ big l = false ∧ wt l ≤ 1496 := by
  unfold pE
  constructor
  · intro h
    split at h
    · cases h
    · split at h
      · cases h
      · split at h
        · cases h
        · rename_i h1 h2 h3; exact ⟨by omega, by simpa using h2, by omega⟩
  · rintro ⟨h1, h2, h3⟩
    rw [if_neg (by omega), if_neg (by rw [h2]; decide), if_neg (by omega)]
theorem pA_yes {l : List Opt} (h : pE l = 0) : pA l = enc l := if_pos h
theorem pA_no {l : List Opt} (h : pE l ≠ 0) : pA l = [] := if_neg h
theorem pA_le (l : List Opt) : (pA l).length ≤ 1496 := by
  by_cases h : pE l = 0
  · rw [pA_yes h, enc_length]; exact (pE_zero.1 h).2.2
  · rw [pA_no h]; simp

def rd (s : List UInt8) : Opt × Nat :=
  if s.length < 2 then ((0, ByteArray.empty), 6)
  else if (s.getD 1 0).toNat < 2 then ((0, ByteArray.empty), 7)
  else if s.length < (s.getD 1 0).toNat then ((0, ByteArray.empty), 6)
  else ((s.getD 0 0, bOf ((s.drop 2).take ((s.getD 1 0).toNat - 2))), 0)
abbrev Item := Nat × Opt × Nat
def seq (s : List UInt8) (p : Nat) : List Item :=
  if h : s = [] then [] else
    (p, (rd s).1, (rd s).2) :: if (rd s).2 = 0 then seq (s.drop (2 + (rd s).1.2.size)) (p + (2 + (rd s).1.2.size)) else []
termination_by s.length
decreasing_by
  have : 0 < s.length := List.length_pos_iff.2 h
  rw [List.length_drop]; omega
def fi (N : Nat) : List Opt → List Item → List Opt × Nat × Nat
  | l, [] => (l, N, 0)
  | l, x :: r => if l.length = 64 then ([], x.1, 4) else if x.2.2 ≠ 0 then ([], x.1, x.2.2) else fi N (l ++ [x.2.1]) r
def got (s : List UInt8) : List Opt × Nat × Nat := if 1496 < s.length then ([], 0, 5) else fi s.length [] (seq s 0)
def gL (s : List UInt8) : List Opt := (got s).1
def gN (s : List UInt8) : Nat := (got s).2.1
def gE (s : List UInt8) : Nat := (got s).2.2

theorem seq_nil (p : Nat) : seq [] p = [] := by rw [seq, dif_pos rfl]
theorem seq_bad {s : List UInt8} (h : s ≠ []) (hb : (rd s).2 ≠ 0) (p : Nat) : seq s p = [(p, (rd s).1, (rd s).2)] := by rw [seq, dif_neg h, if_neg hb]
theorem seq_good {s : List UInt8} (h : s ≠ []) (hb : (rd s).2 = 0) (p : Nat) : seq s p = (p, (rd s).1, 0) :: seq (s.drop (2 + (rd s).1.2.size)) (p + (2 + (rd s).1.2.size)) := by rw [seq, dif_neg h, if_pos hb, hb]
theorem rd_cases (s : List UInt8) : (s.length < 2 ∧ rd s = ((0, ByteArray.empty), 6)) ∨ (2 ≤ s.length ∧ (s.getD 1 0).toNat < 2 ∧ rd s = ((0, ByteArray.empty), 7)) ∨ (2 ≤ s.length ∧ 2 ≤ (s.getD 1 0).toNat ∧ s.length < (s.getD 1 0).toNat ∧ rd s = ((0, ByteArray.empty), 6)) ∨
    (2 ≤ s.length ∧ 2 ≤ (s.getD 1 0).toNat ∧ (s.getD 1 0).toNat ≤ s.length ∧ rd s = ((s.getD 0 0, bOf ((s.drop 2).take ((s.getD 1 0).toNat - 2))), 0) ∧ 2 + (rd s).1.2.size = (s.getD 1 0).toNat) := by
  unfold rd
  by_cases h1 : s.length < 2
  · left; exact ⟨h1, if_pos h1⟩
  · by_cases h2 : (s.getD 1 0).toNat < 2
    · right; left; exact ⟨by omega, h2, by rw [if_neg h1, if_pos h2]⟩
    · by_cases h3 : s.length < (s.getD 1 0).toNat
      · right; right; left; exact ⟨by omega, by omega, h3, by rw [if_neg h1, if_neg h2, if_pos h3]⟩
      · right; right; right
        refine ⟨by omega, by omega, by omega, by rw [if_neg h1, if_neg h2, if_neg h3], ?_⟩
        rw [if_neg h1, if_neg h2, if_neg h3]
        simp only [size_bOf, List.length_take, List.length_drop]
        omega
theorem rd_good {s : List UInt8} (h : (rd s).2 = 0) : s = encO (rd s).1 ++ s.drop (2 + (rd s).1.2.size) ∧ (rd s).1.2.size ≤ 253 ∧ 2 + (rd s).1.2.size ≤ s.length := by
  rcases rd_cases s with ⟨_, e⟩ | ⟨_, _, e⟩ | ⟨_, _, _, e⟩ | ⟨h1, h2, h3, e, hz⟩
  · rw [e] at h; cases h
  · rw [e] at h; cases h
  · rw [e] at h; cases h
  · match s, h1 with
    | a :: b :: d, _ =>
      simp only [List.getD_cons_zero, List.getD_cons_succ, List.length_cons] at h2 h3 e hz
      have hb := b.toNat_lt
      refine ⟨?_, by omega, by simp only [List.length_cons]; omega⟩
      rw [hz]
      unfold encO
      rw [hz, e]
      simp only [toList_bOf, List.drop_succ_cons, List.drop_zero, UInt8.ofNat_toNat, List.cons_append]
      congr 2
      have : (a :: b :: d).drop b.toNat = d.drop (b.toNat - 2) := by
        conv => lhs; rw [show b.toNat = (b.toNat - 2) + 1 + 1 by omega, List.drop_succ_cons, List.drop_succ_cons]
      rw [this, List.take_append_drop]
theorem rd_enc (o : Opt) (r : List UInt8) (h : o.2.size ≤ 253) : rd (encO o ++ r) = (o, 0) := by
  have e : (UInt8.ofNat (2 + o.2.size)).toNat = 2 + o.2.size := by rw [UInt8.toNat_ofNat']; omega
  unfold encO rd
  simp only [List.cons_append, List.length_cons, List.length_append, List.getD_cons_zero, List.getD_cons_succ, e, List.drop_succ_cons, List.drop_zero]
  rw [← size_toList, if_neg (by omega), if_neg (by omega), if_neg (by omega)]
  rw [show 2 + o.2.size - 2 = o.2.toList.length by rw [← size_toList]; omega, List.take_left, bOf_toList]
theorem seq_enc (o : Opt) (r : List UInt8) (p : Nat) (h : o.2.size ≤ 253) : seq (encO o ++ r) p = (p, o, 0) :: seq r (p + (2 + o.2.size)) := by
  have hr := rd_enc o r h
  rw [seq_good (by unfold encO; simp) (by rw [hr]), hr]
  simp only
  rw [List.drop_left' (encO_length o)]
theorem fi_enc (N : Nat) : ∀ (m l : List Opt) (p : Nat), l.length + m.length ≤ 64 → (∀ o ∈ m, o.2.size ≤ 253) → fi N l (seq (enc m) p) = (l ++ m, N, 0)
  | [], l, p, _, _ => by rw [enc_nil, seq_nil, fi, List.append_nil]
  | o :: m, l, p, h, hm => by
    rw [List.length_cons] at h
    rw [enc_cons, seq_enc o _ p (hm o (by simp)), fi, if_neg (by omega), if_neg (by simp), fi_enc N m (l ++ [o]) _ (by rw [List.length_append]; simp; omega) (fun x hx => hm x (by simp [hx]))]
    simp
theorem got_enc {l : List Opt} (h : pE l = 0) : got (pA l) = (l, (pA l).length, 0) := by
  obtain ⟨h1, h2, h3⟩ := pE_zero.1 h
  have hl := pA_le l
  unfold got
  rw [if_neg (by omega)]
  conv => lhs; rw [pA_yes h]
  rw [fi_enc _ l [] 0 (by simpa using h1) (big_false.1 h2), pA_yes h]; rfl
theorem fi_some (N : Nat) : ∀ (n : Nat) (s : List UInt8) (l : List Opt) (p : Nat), s.length ≤ n → l.length ≤ 64 → (fi N l (seq s p)).2.2 = 0 → ∃ m, fi N l (seq s p) = (l ++ m, N, 0) ∧ enc m = s ∧ l.length + m.length ≤ 64 ∧ ∀ o ∈ m, o.2.size ≤ 253
  | n, [], l, p, _, hl, _ => ⟨[], by rw [seq_nil, fi, List.append_nil], rfl, by simpa using hl, fun _ h => by cases h⟩
  | 0, a :: s, l, p, hn, _, _ => by simp at hn
  | n + 1, a :: s, l, p, hn, hl, h => by
    by_cases hb : (rd (a :: s)).2 = 0
    · have hg := rd_good hb
      rw [seq_good (by simp) hb] at h ⊢
      generalize ho : (rd (a :: s)).1 = o at *
      generalize hr : (a :: s).drop (2 + o.2.size) = r at *
      have hrl : r.length + (2 + o.2.size) = s.length + 1 := by rw [← hr, List.length_drop, List.length_cons]; have := hg.2.2; rw [List.length_cons] at this; omega
      rw [List.length_cons] at hn
      rw [fi] at h ⊢
      by_cases h64 : l.length = 64
      · rw [if_pos h64] at h; cases h
      · rw [if_neg h64, if_neg (by simp)] at h ⊢
        obtain ⟨m, e1, e2, e3, e4⟩ := fi_some N n r (l ++ [o]) _ (by omega) (by rw [List.length_append]; simp; omega) h
        refine ⟨o :: m, by rw [e1]; simp, by rw [enc_cons, e2]; exact hg.1.symm, by simp only [List.length_append, List.length_cons, List.length_nil] at e3 ⊢; omega, ?_⟩
        intro x hx
        rcases List.mem_cons.1 hx with rfl | hx
        · exact hg.2.1
        · exact e4 x hx
    · rw [seq_bad (by simp) hb, fi] at h
      split at h
      · cases h
      · exact absurd h hb
theorem enc_got {s : List UInt8} (h : gE s = 0) : got s = (gL s, s.length, 0) ∧ pE (gL s) = 0 ∧ pA (gL s) = s := by
  unfold gE gL got at *
  by_cases hs : 1496 < s.length
  · rw [if_pos hs] at h; cases h
  · rw [if_neg hs] at h ⊢
    obtain ⟨m, e1, e2, e3, e4⟩ := fi_some s.length s.length s [] 0 (Nat.le_refl _) (by simp) h
    rw [List.nil_append] at e1
    rw [e1]
    have hp : pE m = 0 := pE_zero.2 ⟨by simpa using e3, big_false.2 e4, by rw [← enc_length, e2]; omega⟩
    exact ⟨rfl, hp, by rw [pA_yes hp]; exact e2⟩
theorem fi_no (N : Nat) : ∀ (n : Nat) (s : List UInt8) (l : List Opt) (p : Nat), s.length ≤ n → p + s.length ≤ N → (fi N l (seq s p)).2.2 ≠ 0 → (fi N l (seq s p)).1 = [] ∧ (fi N l (seq s p)).2.1 ≤ N
  | n, [], l, p, _, _, h => by rw [seq_nil, fi] at h; exact absurd rfl h
  | 0, a :: s, l, p, hn, _, _ => by simp at hn
  | n + 1, a :: s, l, p, hn, hN, h => by
    rw [List.length_cons] at hn hN
    by_cases hb : (rd (a :: s)).2 = 0
    · have hg := rd_good hb
      rw [seq_good (by simp) hb, fi] at h ⊢
      by_cases h64 : l.length = 64
      · rw [if_pos h64]; exact ⟨rfl, by simp only; omega⟩
      · rw [if_neg h64, if_neg (by simp)] at h ⊢
        refine fi_no N n _ _ _ ?_ ?_ h
        · rw [List.length_drop, List.length_cons]; omega
        · have := hg.2.2; rw [List.length_cons] at this; rw [List.length_drop, List.length_cons]; omega
    · rw [seq_bad (by simp) hb, fi] at h ⊢
      split
      · exact ⟨rfl, by simp only; omega⟩
      · exact ⟨rfl, by simp only; omega⟩
theorem got_no {s : List UInt8} (h : gE s ≠ 0) : gL s = [] ∧ gN s ≤ s.length := by
  unfold gE gL gN got at *
  by_cases hs : 1496 < s.length
  · rw [if_pos hs]; exact ⟨rfl, Nat.zero_le _⟩
  · rw [if_neg hs] at h ⊢
    exact fi_no s.length s.length s [] 0 (Nat.le_refl _) (by omega) h
theorem gL_le (s : List UInt8) : (gL s).length ≤ 64 := by
  by_cases h : gE s = 0
  · exact (pE_zero.1 (enc_got h).2.1).1
  · rw [(got_no h).1]; simp
theorem gL_size (s : List UInt8) : ∀ o ∈ gL s, o.2.size ≤ 253 := by
  by_cases h : gE s = 0
  · exact big_false.1 (pE_zero.1 (enc_got h).2.1).2.1
  · rw [(got_no h).1]; intro o ho; cases ho

def okI (pre : List Item) : Prop := ∀ x ∈ pre, x.2.2 = 0
def optsI (pre : List Item) : List Opt := pre.map fun x => x.2.1
theorem fi_pre (N : Nat) : ∀ (pre rest : List Item) (l : List Opt), okI pre → l.length + pre.length ≤ 64 → fi N l (pre ++ rest) = fi N (l ++ optsI pre) rest
  | [], rest, l, _, _ => by simp [optsI]
  | x :: pre, rest, l, h, hl => by
    rw [List.length_cons] at hl
    rw [List.cons_append, fi, if_neg (by omega), if_neg (by simp [h x (by simp)]), fi_pre N pre rest _ (fun y hy => h y (by simp [hy])) (by rw [List.length_append]; simp; omega)]
    simp [optsI]
theorem optsI_snoc (pre : List Item) (x : Item) : optsI (pre ++ [x]) = optsI pre ++ [x.2.1] := by simp [optsI]
theorem okI_snoc {pre : List Item} {x : Item} (h : okI pre) (hx : x.2.2 = 0) : okI (pre ++ [x]) := by
  intro y hy
  rcases List.mem_append.1 hy with hy | hy
  · exact h y hy
  · rw [List.mem_singleton] at hy; subst hy; exact hx
theorem got_done {s : List UInt8} (hs : s.length ≤ 1496) (h : okI (seq s 0)) (hl : (seq s 0).length ≤ 64) : got s = (optsI (seq s 0), s.length, 0) := by
  unfold got
  rw [if_neg (by omega)]
  have := fi_pre s.length (seq s 0) [] [] h (by simpa using hl)
  rw [List.append_nil, List.nil_append] at this
  rw [this, fi]
theorem got_stop {s : List UInt8} (hs : s.length ≤ 1496) {pre : List Item} {x : Item} (hp : pre ++ [x] <+: seq s 0) (h : okI pre) (hl : pre.length ≤ 64) (hx : pre.length = 64 ∨ x.2.2 ≠ 0) : got s = ([], x.1, if pre.length = 64 then 4 else x.2.2) := by
  obtain ⟨r, hr⟩ := hp
  unfold got
  rw [if_neg (by omega), ← hr, List.append_assoc, fi_pre s.length pre _ [] h (by simpa using hl), List.nil_append]
  have hlen : (optsI pre).length = pre.length := by simp [optsI]
  rw [List.singleton_append, fi, hlen]
  by_cases h64 : pre.length = 64
  · rw [if_pos h64, if_pos h64]
  · rw [if_neg h64, if_neg h64]
    rcases hx with hx | hx
    · exact absurd hx h64
    · rw [if_pos hx]
def fd (t : UInt8) (l : List Opt) : Option Opt := l.find? fun o => o.1 == t
def fA (t : UInt8) (l : List Opt) : Opt := (fd t l).getD (0, ByteArray.empty)
def fB (t : UInt8) (l : List Opt) : Bool := (fd t l).isSome
end Go.Proofs.YtpppggicihfbgaaGreat.Opt

/- Contracts of the document's Same, Find, and of the laws' Long. -/
namespace Go.Proofs.YtpppggicihfbgaaGreat.Opt
open Go.RowKit Go.Proofs.YtpppggicihfbgaaGreat.Oct Go.Proofs.YtpppggicihfbgaaGreat.Row Go.Proofs.YtpppggicihfbgaaGreat.Mem


def sm (a b : List Opt) : Bool := decide (a = b)
theorem take_next {a b : List Opt} {k : Nat} {o o' : Opt} (h : a.take k = b.take k) (ha : a[k]? = some o) (hb : b[k]? = some o') (he : o = o') : a.take (k + 1) = b.take (k + 1) := by
  obtain ⟨h1, rfl⟩ := List.getElem?_eq_some_iff.1 ha
  obtain ⟨h2, rfl⟩ := List.getElem?_eq_some_iff.1 hb
  rw [List.take_succ_eq_append_getElem h1, List.take_succ_eq_append_getElem h2, h, he]
theorem sm_no {a b : List Opt} {k : Nat} {o o' : Opt} (ha : a[k]? = some o) (hb : b[k]? = some o') (he : ¬ o = o') : sm a b = false :=
  decide_eq_false fun e => he (by rw [e, hb] at ha; exact (Option.some.inj ha).symm)
theorem no_byte {c d : UInt8} (h : ¬ c = d) : ((c.toNat : Int) == (d.toNat : Int)) = false := by
  rw [beq_eq_false_iff_ne]
  intro e
  exact h (UInt8.toNat_inj.1 (by omega))
theorem no_text {s t : ByteArray} (h : ¬ s = t) : (s.toList == t.toList) = false := by
  rw [beq_toList]
  exact decide_eq_false fun e => h (toList_inj e)
end Go.Proofs.YtpppggicihfbgaaGreat.Opt

/- An option in a block; a named result that is a struct, and one more. -/
namespace Go.Proofs.YtpppggicihfbgaaGreat.Opt
open Go.RowKit Go.Proofs.YtpppggicihfbgaaGreat.Oct Go.Proofs.YtpppggicihfbgaaGreat.Row Go.Proofs.YtpppggicihfbgaaGreat.Mem

set_option maxRecDepth 100000 in
theorem Tryz.info177 : (Tryz.prog.info? 177).map (fun i => (i.zero, i.size, i.bytes)) = some (some (.agg #[.int .u8 0, .string ByteArray.empty]), 2, 24) := by kernel_rfl

def At (W : World) (g : Nat) (o : Opt) : Prop := Blk W g [.int .u8 o.1.toNat, .string o.2] 177
theorem At.callee {W W' : World} {g : Nat} {o : Opt} (h : At W g o) (hb : Below W.heap.size W W') : At W' g o := Blk.callee h hb
theorem At.below {W W' : World} {g n : Nat} {o : Opt} (h : At W g o) (hb : Below n W W') (hg : g < n) : At W' g o := Blk.below h hb hg
theorem At.alloc {W : World} {g : Nat} {o : Opt} (h : At W g o) (x : Obj) : At (W.alloc x) g o := Blk.alloc h x
theorem at_new (w : World) (t : UInt8) (d : ByteArray) : At (w.alloc (.cells #[.int .u8 t.toNat, .string d] 177)) w.heap.size (t, d) := blk_new w [.int .u8 t.toNat, .string d] _
theorem At.c0 {W : World} {g : Nat} {o : Opt} (h : At W g o) : W.cell? ⟨g, 0, none⟩ = some (.int .u8 o.1.toNat) := Blk.at_ h 0
theorem At.c1 {W : World} {g : Nat} {o : Opt} (h : At W g o) : W.cell? ⟨g, 1, none⟩ = some (.string o.2) := Blk.at_ h 1
theorem At.set {W : World} {g : Nat} {o : Opt} (h : At W g o) (o' : Opt) : At ((W.setCell ⟨g, 0, none⟩ (.int .u8 o'.1.toNat)).setCell ⟨g, 1, none⟩ (.string o'.2)) g o' := (Blk.set h 0 (.int .u8 o'.1.toNat)).set 1 (.string o'.2)
theorem results_row1 {P : Program} {fn : Func} {p t : Tmp} {ty : TypeId} (h : fn.results = #[.cell p ty, .tmp t]) (tmps : Array Value) (w : World) (g : Nat) (cs : List Value) (tb : TypeId) (d : TypeDesc)
    (hp : tmps.getD p undef = .pointer (some ⟨g, 0, none⟩)) (hg : Blk w g cs tb) (hu : P.underlying ty = some d) (hd : (match d with | .struct _ | .array _ _ => true | _ => false) = true) (hi : (P.info? ty).map (·.size) = some cs.toArray.size) :
    (results fn tmps).run P w = .ok (.tuple #[.agg cs.toArray, tmps.getD t undef]) w := by
  have hp' : tmps[p]?.getD undef = .pointer (some ⟨g, 0, none⟩) := by simpa using hp
  simp only [List.size_toArray] at hi
  simp [results, h, hp', asAddr, run_loadVar_row w g tb ty cs.toArray (0, 0) d hg hu hd (by simpa using hi)]

end Go.Proofs.YtpppggicihfbgaaGreat.Opt

/- What IPCP's options say: plain mathematics of options and of the struct they fill; of no program. -/
namespace Go.Proofs.YtpppggicihfbgaaGreat.Ipc
open Go.Proofs.YtpppggicihfbgaaGreat.Oct Go.Proofs.YtpppggicihfbgaaGreat.Opt

structure Ipc where
  ha : Bool
  addr : UInt32
  h1 : Bool
  dns1 : UInt32
  h2 : Bool
  dns2 : UInt32
deriving DecidableEq
def lz : Ipc := ⟨false, 0, false, 0, false, 0⟩
def lv (x : Ipc) : List Value := [.bool x.ha, .int .u32 x.addr.toNat, .bool x.h1, .int .u32 x.dns1.toNat, .bool x.h2, .int .u32 x.dns2.toNat]

def known (t : UInt8) : Bool := t == 3 || t == 129 || t == 131
def good (o : Opt) : Bool := known o.1 && decide (o.2.size = 4)
def has (t : UInt8) (x : Ipc) : Bool := if t = 3 then x.ha else if t = 129 then x.h1 else x.h2
def adr (t : UInt8) (x : Ipc) : UInt32 := if t = 3 then x.addr else if t = 129 then x.dns1 else x.dns2
def dat (t : UInt8) (x : Ipc) : ByteArray := bOf (numS (adr t x).toNat 4)
def set (t : UInt8) (x : Ipc) (v : UInt32) : Ipc := if t = 3 then { x with ha := true, addr := v } else if t = 129 then { x with h1 := true, dns1 := v } else { x with h2 := true, dns2 := v }
def say (x : Ipc) (o : Opt) : Ipc := set o.1 x (UInt32.ofNat (val o.2.toList))
def may (x : Ipc) : Bool := (x.ha || x.addr == 0) && (x.h1 || x.dns1 == 0) && (x.h2 || x.dns2 == 0)
def six : List UInt8 := [3, 129, 131]
def put (x : Ipc) : List Opt := six.filterMap fun t => if has t x then some (t, dat t x) else none
def step (a : Option (Ipc × List Opt)) (o : Opt) : Option (Ipc × List Opt) :=
  match a with
  | none => none
  | some (x, odd) => if good o then (if has o.1 x then none else some (say x o, odd)) else some (x, odd ++ [o])
def st (l : List Opt) : Option (Ipc × List Opt) := l.foldl step (some (lz, []))
def gL (l : List Opt) : Ipc := match st l with | some (x, _) => x | none => lz

/-! ### known, good -/
theorem known_iff {t : UInt8} : known t = true ↔ t ∈ six := by unfold known six; simp [or_assoc]
theorem good_of {o : Opt} (h : known o.1 = true) (h2 : o.2.size = 4) : good o = true := by
  unfold good
  rw [h, decide_eq_true h2]
  rfl

/-! ### what is said, and put -/
theorem may_iff (x : Ipc) : may x = true ↔ (x.ha = false → x.addr = 0) ∧ (x.h1 = false → x.dns1 = 0) ∧ (x.h2 = false → x.dns2 = 0) := by
  unfold may
  cases x.ha <;> cases x.h1 <;> cases x.h2 <;> simp [and_assoc]
/-! ### put -/
theorem mem_put {x : Ipc} {t : UInt8} {d : ByteArray} : (t, d) ∈ put x ↔ known t = true ∧ has t x = true ∧ d = dat t x := by
  unfold put
  rw [List.mem_filterMap]
  constructor
  · rintro ⟨u, hu, e⟩
    split at e
    · rename_i hh
      simp only [Option.some.injEq, Prod.mk.injEq] at e
      obtain ⟨rfl, rfl⟩ := e
      exact ⟨known_iff.2 hu, hh, rfl⟩
    · cases e
  · rintro ⟨hk, hh, rfl⟩
    exact ⟨t, known_iff.1 hk, by rw [if_pos hh]⟩
theorem dat_good {x : Ipc} {t : UInt8} (ht : known t = true) : good (t, dat t x) = true :=
  good_of ht (by show (bOf (numS (adr t x).toNat 4)).size = 4; rw [size_bOf, numS_length])
theorem put_good (x : Ipc) : ∀ o ∈ put x, good o = true := by
  rintro ⟨t, d⟩ ho
  obtain ⟨hk, hh, rfl⟩ := mem_put.1 ho
  exact dat_good hk
end Go.Proofs.YtpppggicihfbgaaGreat.Ipc

/- A policy of IPCP's options: what is asked, what is said of each option, what a reply changes. Plain mathematics, of no program. -/
namespace Go.Proofs.YtpppggicihfbgaaGreat.Ipp
open Go.Proofs.YtpppggicihfbgaaGreat.Oct Go.Proofs.YtpppggicihfbgaaGreat.Opt Go.Proofs.YtpppggicihfbgaaGreat.Ipc

structure Conf where
  addr : UInt32
  peer : UInt32
  dns1 : UInt32
  dns2 : UInt32
  want : Bool
  mn : Int
deriving DecidableEq
def cv (c : Conf) : List Value := [.int .u32 c.addr.toNat, .int .u32 c.peer.toNat, .int .u32 c.dns1.toNat, .int .u32 c.dns2.toNat, .bool c.want, .int .i64 c.mn]
structure Po where
  w : Ipc
  c : Conf
  mine : Ipc
  peer : Ipc
  naks : Nat
def pv (p : Po) : List Value := lv p.w ++ (cv p.c ++ (lv p.mine ++ (lv p.peer ++ [.int .i64 p.naks])))

def mayC (c : Conf) : Bool := decide (1 ≤ c.mn) && decide (c.mn ≤ 10)
def wish (c : Conf) : Ipc := ⟨true, c.addr, c.want, 0, c.want, 0⟩
def newP (c : Conf) : Po := ⟨wish c, c, lz, lz, 0⟩
def req (p : Po) : List Opt := put p.w

/-! ### what is said of an option -/
def lo (o : Opt) : Ipc := gL [o]
def ad (o : Opt) : UInt32 := UInt32.ofNat (val o.2.toList)
def giv (p : Po) (t : UInt8) : UInt32 := if t = 3 then p.c.peer else if t = 129 then p.c.dns1 else p.c.dns2
def or32 (a b : UInt32) : UInt32 := if a = 0 then b else a
def bet (p : Po) (t : UInt8) (x : Ipc) : Ipc :=
  if t = 3 then ⟨or32 p.c.peer x.addr != 0, or32 p.c.peer x.addr, false, 0, false, 0⟩
  else if t = 129 then ⟨false, 0, p.c.dns1 != 0, p.c.dns1, false, 0⟩
  else ⟨false, 0, false, 0, p.c.dns2 != 0, p.c.dns2⟩
def sa (p : Po) (t : UInt8) (x : Ipc) : UInt32 := if t = 3 then or32 p.c.peer x.addr else giv p t
def zo : Opt := (0, ByteArray.empty)
def ok (p : Po) (o : Opt) : Bool := good o && sa p o.1 (lo o) != 0
def sug (p : Po) (o : Opt) : Opt := (o.1, bOf (numS (sa p o.1 (lo o)).toNat 4))
def imp (p : Po) (o : Opt) : Opt := if ok p o then sug p o else zo
structure Ver where
  got : Opt
  rej : Bool
  bet : Opt
deriving DecidableEq
def seen (l : List Opt) (t : UInt8) : Bool := l.any fun o => o.1 == t
def ver (p : Po) (l : List Opt) (o : Opt) : Ver := ⟨o, seen l o.1 || !ok p o, imp p o⟩
def vs (p : Po) (l : List Opt) : List Ver := (List.range l.length).map fun i => ver p (l.take i) (l.getD i zo)


/-! ### replies -/

/-! ### rows of verdicts -/

/-! ### one option -/
end Go.Proofs.YtpppggicihfbgaaGreat.Ipp

/- What LCP's options say: plain mathematics of options and of the struct they fill; of no program. -/
namespace Go.Proofs.YtpppggicihfbgaaGreat.Lco
open Go.Proofs.YtpppggicihfbgaaGreat.Oct Go.Proofs.YtpppggicihfbgaaGreat.Opt

structure Lcp where
  hm : Bool
  mru : UInt16
  ha : Bool
  accm : UInt32
  auth : UInt8
  hg : Bool
  magic : UInt32
  pfc : Bool
  acfc : Bool
deriving DecidableEq
def lz : Lcp := ⟨false, 0, false, 0, 0, false, 0, false, false⟩
def lv (x : Lcp) : List Value := [.bool x.hm, .int .u16 x.mru.toNat, .bool x.ha, .int .u32 x.accm.toNat, .int .u8 x.auth.toNat, .bool x.hg, .int .u32 x.magic.toNat, .bool x.pfc, .bool x.acfc]

def authD (a : UInt8) : ByteArray := if a = 1 then bOf [192, 35] else if a = 2 then bOf [194, 35, 5] else bOf []
def authK (s : ByteArray) : UInt8 := if s = bOf [192, 35] then 1 else if s = bOf [194, 35, 5] then 2 else 0

def known (t : UInt8) : Bool := t == 1 || t == 2 || t == 3 || t == 5 || t == 7 || t == 8
def good (o : Opt) : Bool :=
  if o.1 = 1 then decide (o.2.size = 2) else if o.1 = 2 then decide (o.2.size = 4) else if o.1 = 3 then authK o.2 != 0 else if o.1 = 5 then decide (o.2.size = 4) else if o.1 = 7 then decide (o.2.size = 0) else if o.1 = 8 then decide (o.2.size = 0) else false
def has (t : UInt8) (x : Lcp) : Bool :=
  if t = 1 then x.hm else if t = 2 then x.ha else if t = 3 then x.auth != 0 else if t = 5 then x.hg else if t = 7 then x.pfc else x.acfc
def dat (t : UInt8) (x : Lcp) : ByteArray :=
  if t = 1 then bOf (numS x.mru.toNat 2) else if t = 2 then bOf (numS x.accm.toNat 4) else if t = 3 then authD x.auth else if t = 5 then bOf (numS x.magic.toNat 4) else bOf []
def say (x : Lcp) (o : Opt) : Lcp :=
  if o.1 = 1 then { x with hm := true, mru := UInt16.ofNat (val o.2.toList) } else if o.1 = 2 then { x with ha := true, accm := UInt32.ofNat (val o.2.toList) } else if o.1 = 3 then { x with auth := authK o.2 }
  else if o.1 = 5 then { x with hg := true, magic := UInt32.ofNat (val o.2.toList) } else if o.1 = 7 then { x with pfc := true } else if o.1 = 8 then { x with acfc := true } else x
def may (x : Lcp) : Bool := decide (x.auth ≤ 2) && (x.hm || x.mru == 0) && (x.ha || x.accm == 0) && (x.hg || x.magic == 0)
def six : List UInt8 := [1, 2, 3, 5, 7, 8]
def put (x : Lcp) : List Opt := six.filterMap fun t => if has t x then some (t, dat t x) else none
def step (a : Option (Lcp × List Opt)) (o : Opt) : Option (Lcp × List Opt) :=
  match a with
  | none => none
  | some (x, odd) => if good o then (if has o.1 x then none else some (say x o, odd)) else some (x, odd ++ [o])
def st (l : List Opt) : Option (Lcp × List Opt) := l.foldl step (some (lz, []))
def gL (l : List Opt) : Lcp := match st l with | some (x, _) => x | none => lz
def gO (l : List Opt) : List Opt := match st l with | some (_, o) => o | none => []
def gE (l : List Opt) : Nat := match st l with | some _ => 0 | none => 9
theorem st_nil : st [] = some (lz, []) := rfl
theorem st_snoc (l : List Opt) (o : Opt) : st (l ++ [o]) = step (st l) o := by unfold st; rw [List.foldl_append]; rfl
theorem foldl_none : ∀ l : List Opt, l.foldl step none = none
  | [] => rfl
  | _ :: l => foldl_none l
theorem st_cut {l : List Opt} {k : Nat} (h : st (l.take k) = none) : st l = none := by
  unfold st at h ⊢
  conv => lhs; rw [← List.take_append_drop k l]
  rw [List.foldl_append, h, foldl_none]

/-! ### known, good -/
theorem known_iff {t : UInt8} : known t = true ↔ t ∈ six := by unfold known six; simp [or_assoc]
theorem known_cases {t : UInt8} (h : known t = true) : t = 1 ∨ t = 2 ∨ t = 3 ∨ t = 5 ∨ t = 7 ∨ t = 8 := by unfold known at h; simp [or_assoc] at h; exact h
theorem good_known {o : Opt} (h : good o = true) : known o.1 = true := by
  unfold good at h
  unfold known
  split at h
  · rename_i e; rw [e]; rfl
  split at h
  · rename_i e; rw [e]; rfl
  split at h
  · rename_i e; rw [e]; rfl
  split at h
  · rename_i e; rw [e]; rfl
  split at h
  · rename_i e; rw [e]; rfl
  split at h
  · rename_i e; rw [e]; rfl
  · cases h
theorem bOf_inj {a b : List UInt8} (h : bOf a = bOf b) : a = b := by rw [← toList_bOf a, h, toList_bOf]
theorem authK_authD (a : UInt8) (h : a ≤ 2) : authK (authD a) = a := by
  have h' : a.toNat ≤ 2 := UInt8.le_iff_toNat_le.1 h
  have : a = 0 ∨ a = 1 ∨ a = 2 := by
    rcases Nat.lt_or_ge a.toNat 1 with h0 | h0
    · exact .inl (UInt8.toNat_inj.1 (by show a.toNat = 0; omega))
    · rcases Nat.lt_or_ge a.toNat 2 with h1 | h1
      · exact .inr (.inl (UInt8.toNat_inj.1 (by show a.toNat = 1; omega)))
      · exact .inr (.inr (UInt8.toNat_inj.1 (by show a.toNat = 2; omega)))
  have n1 : bOf [] ≠ bOf [192, 35] := fun e => by have := bOf_inj e; cases this
  have n2 : bOf [] ≠ bOf [194, 35, 5] := fun e => by have := bOf_inj e; cases this
  have n3 : bOf [194, 35, 5] ≠ bOf [192, 35] := fun e => by have := congrArg List.length (bOf_inj e); cases this
  rcases this with rfl | rfl | rfl
  · show (if bOf [] = bOf [192, 35] then (1 : UInt8) else if bOf [] = bOf [194, 35, 5] then 2 else 0) = 0
    rw [if_neg n1, if_neg n2]
  · show (if bOf [192, 35] = bOf [192, 35] then (1 : UInt8) else _) = 1
    rw [if_pos rfl]
  · show (if bOf [194, 35, 5] = bOf [192, 35] then (1 : UInt8) else if bOf [194, 35, 5] = bOf [194, 35, 5] then 2 else 0) = 2
    rw [if_neg n3, if_pos rfl]
theorem authD_authK {s : ByteArray} (h : authK s ≠ 0) : authD (authK s) = s := by
  unfold authK at h ⊢
  split
  · rename_i e; rw [e]; rfl
  · rename_i e
    rw [if_neg e] at h
    split
    · rename_i e2; rw [e2]; unfold authD; rw [if_neg (by decide), if_pos rfl]
    · rename_i e2; rw [if_neg e2] at h; exact absurd rfl h
theorem authK_le (s : ByteArray) : authK s ≤ 2 := by unfold authK; split; decide; split; decide; decide
theorem size_zero {s : ByteArray} (h : s.size = 0) : s = bOf [] := by
  rw [← bOf_toList s]
  congr 1
  exact List.eq_nil_of_length_eq_zero (by rw [← size_toList]; exact h)
theorem u16_val {s : ByteArray} (h : s.size = 2) : (UInt16.ofNat (val s.toList)).toNat = val s.toList := by
  have := val_lt s.toList
  rw [← size_toList, h] at this
  rw [UInt16.toNat_ofNat']; omega
theorem u32_val {s : ByteArray} (h : s.size = 4) : (UInt32.ofNat (val s.toList)).toNat = val s.toList := by
  have := val_lt s.toList
  rw [← size_toList, h] at this
  rw [UInt32.toNat_ofNat']; omega
theorem numS_of {s : ByteArray} {n : Nat} (h : s.size = n) : bOf (numS (val s.toList) n) = s := by
  rw [← h, size_toList, numS_val, bOf_toList]
theorem numS_u16 (v : UInt16) : UInt16.ofNat (val (bOf (numS v.toNat 2)).toList) = v := by
  rw [toList_bOf, val_numS]
  have := v.toNat_lt
  rw [Nat.mod_eq_of_lt (by omega), UInt16.ofNat_toNat]
theorem numS_u32 (v : UInt32) : UInt32.ofNat (val (bOf (numS v.toNat 4)).toList) = v := by
  rw [toList_bOf, val_numS]
  have := v.toNat_lt
  rw [Nat.mod_eq_of_lt (by omega), UInt32.ofNat_toNat]

/-! ### what is said, and put -/
theorem dat_say {x : Lcp} {t : UInt8} {d : ByteArray} (h : good (t, d) = true) : dat t (say x (t, d)) = d ∧ has t (say x (t, d)) = true := by
  rcases known_cases (good_known h) with e | e | e | e | e | e <;> (simp only at e; subst e)
  · have hs : d.size = 2 := of_decide_eq_true h
    exact ⟨by show bOf (numS (UInt16.ofNat (val d.toList)).toNat 2) = d; rw [u16_val hs, numS_of hs], rfl⟩
  · have hs : d.size = 4 := of_decide_eq_true h
    exact ⟨by show bOf (numS (UInt32.ofNat (val d.toList)).toNat 4) = d; rw [u32_val hs, numS_of hs], rfl⟩
  · have hs : authK d ≠ 0 := by simpa [good] using h
    exact ⟨authD_authK hs, by show (authK d != 0) = true; simpa using hs⟩
  · have hs : d.size = 4 := of_decide_eq_true h
    exact ⟨by show bOf (numS (UInt32.ofNat (val d.toList)).toNat 4) = d; rw [u32_val hs, numS_of hs], rfl⟩
  · exact ⟨(size_zero (of_decide_eq_true h)).symm, rfl⟩
  · exact ⟨(size_zero (of_decide_eq_true h)).symm, rfl⟩
theorem say_other {x : Lcp} {o : Opt} {t : UInt8} (ht : known t = true) (ho : known o.1 = true) (h : t ≠ o.1) : dat t (say x o) = dat t x ∧ has t (say x o) = has t x := by
  obtain ⟨u, d⟩ := o
  simp only at ho h
  rcases known_cases ho with e | e | e | e | e | e <;> subst e <;> rcases known_cases ht with e | e | e | e | e | e <;> subst e <;> first | exact absurd rfl h | exact ⟨rfl, rfl⟩
theorem may_iff (x : Lcp) : may x = true ↔ x.auth ≤ 2 ∧ (x.hm = false → x.mru = 0) ∧ (x.ha = false → x.accm = 0) ∧ (x.hg = false → x.magic = 0) := by
  unfold may
  cases x.hm <;> cases x.ha <;> cases x.hg <;> simp [and_assoc]
theorem say_may {x : Lcp} {o : Opt} (hx : may x = true) (h : good o = true) : may (say x o) = true := by
  obtain ⟨t, d⟩ := o
  rw [may_iff] at hx ⊢
  obtain ⟨h1, h2, h3, h4⟩ := hx
  rcases known_cases (good_known h) with e | e | e | e | e | e <;> (simp only at e; subst e)
  · exact ⟨h1, (fun e => by cases e), h3, h4⟩
  · exact ⟨h1, h2, (fun e => by cases e), h4⟩
  · exact ⟨authK_le d, h2, h3, h4⟩
  · exact ⟨h1, h2, h3, (fun e => by cases e)⟩
  · exact ⟨h1, h2, h3, h4⟩
  · exact ⟨h1, h2, h3, h4⟩
theorem may_ext {x y : Lcp} (hx : may x = true) (hy : may y = true) (h : ∀ t, known t = true → has t x = has t y ∧ (has t x = true → dat t x = dat t y)) : x = y := by
  rw [may_iff] at hx hy
  obtain ⟨a1, a2, a3, a4⟩ := hx
  obtain ⟨b1, b2, b3, b4⟩ := hy
  obtain ⟨h1, d1⟩ := h 1 rfl
  obtain ⟨h2, d2⟩ := h 2 rfl
  obtain ⟨h3, d3⟩ := h 3 rfl
  obtain ⟨h5, d5⟩ := h 5 rfl
  have h7 := (h 7 rfl).1
  have h8 := (h 8 rfl).1
  change x.hm = y.hm at h1
  change x.ha = y.ha at h2
  change (x.auth != 0) = (y.auth != 0) at h3
  change x.hg = y.hg at h5
  change x.pfc = y.pfc at h7
  change x.acfc = y.acfc at h8
  change x.hm = true → bOf (numS x.mru.toNat 2) = bOf (numS y.mru.toNat 2) at d1
  change x.ha = true → bOf (numS x.accm.toNat 4) = bOf (numS y.accm.toNat 4) at d2
  change (x.auth != 0) = true → authD x.auth = authD y.auth at d3
  change x.hg = true → bOf (numS x.magic.toNat 4) = bOf (numS y.magic.toNat 4) at d5
  have e1 : x.mru = y.mru := by
    cases hh : x.hm
    · rw [a2 hh, b2 (by rw [← h1, hh])]
    · rw [← numS_u16 x.mru, d1 hh, numS_u16]
  have e2 : x.accm = y.accm := by
    cases hh : x.ha
    · rw [a3 hh, b3 (by rw [← h2, hh])]
    · rw [← numS_u32 x.accm, d2 hh, numS_u32]
  have e5 : x.magic = y.magic := by
    cases hh : x.hg
    · rw [a4 hh, b4 (by rw [← h5, hh])]
    · rw [← numS_u32 x.magic, d5 hh, numS_u32]
  have e3 : x.auth = y.auth := by
    by_cases hh : x.auth = 0
    · have : (y.auth != 0) = false := by rw [← h3]; simp [hh]
      rw [hh]
      exact (by simpa using this : y.auth = 0).symm
    · rw [← authK_authD x.auth a1, d3 (by simpa using hh), authK_authD y.auth b1]
  obtain ⟨p1, p2, p3, p4, p5, p6, p7, p8, p9⟩ := x
  obtain ⟨q1, q2, q3, q4, q5, q6, q7, q8, q9⟩ := y
  simp only at h1 h2 h5 h7 h8 e1 e2 e3 e5
  subst h1 h2 h5 h7 h8 e1 e2 e3 e5
  rfl
def Rep (x : Lcp) (gs : List Opt) : Prop := may x = true ∧ (∀ t, known t = true → (has t x = true ↔ ∃ d, (t, d) ∈ gs)) ∧ ∀ t d, (t, d) ∈ gs → dat t x = d
theorem Rep.unique {x y : Lcp} {gs gs' : List Opt} (h : Rep x gs) (h' : Rep y gs') (hm : ∀ o, o ∈ gs ↔ o ∈ gs') : x = y := by
  refine may_ext h.1 h'.1 fun t ht => ?_
  have hx := h.2.1 t ht
  have hy := h'.2.1 t ht
  refine ⟨?_, fun e => ?_⟩
  · rw [Bool.eq_iff_iff, hx, hy]
    exact ⟨fun ⟨d, hd⟩ => ⟨d, (hm _).1 hd⟩, fun ⟨d, hd⟩ => ⟨d, (hm _).2 hd⟩⟩
  · obtain ⟨d, hd⟩ := hx.1 e
    rw [h.2.2 t d hd, h'.2.2 t d ((hm _).1 hd)]
def goods (l : List Opt) : List Opt := l.filter fun o => good o
def odds (l : List Opt) : List Opt := l.filter fun o => !good o
def Dis (l : List Opt) : Prop := (l.map (·.1)).Nodup
theorem rep_nil : Rep lz [] := by
  refine ⟨rfl, fun t ht => ⟨fun h => ?_, fun ⟨d, h⟩ => by cases h⟩, fun t d h => by cases h⟩
  rcases known_cases ht with e | e | e | e | e | e <;> subst e <;> cases h
theorem goods_snoc (l : List Opt) (o : Opt) : goods (l ++ [o]) = if good o then goods l ++ [o] else goods l := by
  unfold goods
  rw [List.filter_append]
  by_cases h : good o = true <;> simp [h]
theorem odds_snoc (l : List Opt) (o : Opt) : odds (l ++ [o]) = if good o then odds l else odds l ++ [o] := by
  unfold odds
  rw [List.filter_append]
  by_cases h : good o = true <;> simp [h]
theorem goods_good {l : List Opt} {o : Opt} (h : o ∈ goods l) : good o = true := (List.mem_filter.1 h).2
theorem dis_snoc (l : List Opt) (o : Opt) : Dis (l ++ [o]) ↔ Dis l ∧ ∀ d, (o.1, d) ∉ l := by
  unfold Dis
  rw [List.map_append, List.nodup_append]
  simp only [List.map_cons, List.map_nil, List.mem_map, List.mem_singleton, List.nodup_cons, List.not_mem_nil, not_false_eq_true, List.nodup_nil, and_self, true_and]
  constructor
  · rintro ⟨h1, h2⟩
    exact ⟨h1, fun d hd => h2 o.1 ⟨_, hd, rfl⟩ o.1 rfl rfl⟩
  · rintro ⟨h1, h2⟩
    refine ⟨h1, ?_⟩
    rintro t ⟨⟨t', d⟩, hd, rfl⟩ u rfl e
    simp only at e
    subst e
    exact h2 d hd
theorem Rep.snoc {x : Lcp} {gs : List Opt} {o : Opt} (h : Rep x gs) (hg : ∀ p ∈ gs, good p = true) (ho : good o = true) (hn : ∀ d, (o.1, d) ∉ gs) : Rep (say x o) (gs ++ [o]) := by
  have hk := good_known ho
  refine ⟨say_may h.1 ho, fun t ht => ?_, fun t d hd => ?_⟩
  · by_cases e : t = o.1
    · subst e
      exact ⟨fun _ => ⟨o.2, by simp⟩, fun _ => (dat_say (x := x) (t := o.1) (d := o.2) ho).2⟩
    · rw [(say_other (x := x) ht hk e).2, h.2.1 t ht]
      constructor
      · rintro ⟨d, hd⟩; exact ⟨d, by simp [hd]⟩
      · rintro ⟨d, hd⟩
        rcases List.mem_append.1 hd with hd | hd
        · exact ⟨d, hd⟩
        · rw [List.mem_singleton] at hd
          exact absurd (congrArg Prod.fst hd) e
  · rcases List.mem_append.1 hd with hd | hd
    · have e : t ≠ o.1 := fun e => hn d (by rw [← e]; exact hd)
      rw [(say_other (x := x) (good_known (hg _ hd)) hk e).1, h.2.2 t d hd]
    · rw [List.mem_singleton] at hd
      rw [← hd] at ho ⊢
      exact (dat_say ho).1
theorem snoc_ind {P : List Opt → Prop} (h0 : P []) (h1 : ∀ l o, P l → P (l ++ [o])) : ∀ l, P l := fun l => by
  rw [← List.reverse_reverse l]
  induction l.reverse with
  | nil => exact h0
  | cons o r ih => rw [List.reverse_cons]; exact h1 _ _ ih
theorem st_spec (l : List Opt) : (Dis (goods l) → ∃ x, st l = some (x, odds l) ∧ Rep x (goods l)) ∧ (¬ Dis (goods l) → st l = none) := by
  revert l
  refine snoc_ind ⟨fun _ => ⟨lz, rfl, rep_nil⟩, fun h => absurd List.nodup_nil h⟩ fun l o ih => ?_
  rw [goods_snoc, odds_snoc, st_snoc]
  by_cases ho : good o = true
  · rw [if_pos ho, if_pos ho, dis_snoc]
    by_cases hd : Dis (goods l)
    · obtain ⟨x, hx, hr⟩ := ih.1 hd
      rw [hx]
      by_cases hn : ∀ d, (o.1, d) ∉ goods l
      · have hh : has o.1 x = false := by
          rw [Bool.eq_false_iff]
          intro e
          obtain ⟨d, hd'⟩ := (hr.2.1 _ (good_known ho)).1 e
          exact hn d hd'
        refine ⟨fun _ => ⟨say x o, ?_, hr.snoc (fun p hp => goods_good hp) ho hn⟩, fun h => absurd ⟨hd, hn⟩ h⟩
        simp [step, ho, hh]
      · have hh : has o.1 x = true := by
          refine (hr.2.1 _ (good_known ho)).2 ?_
          rcases Classical.em (∃ d, (o.1, d) ∈ goods l) with h | h
          · exact h
          · exact absurd (fun d hd' => h ⟨d, hd'⟩) hn
        exact ⟨fun h => absurd h.2 hn, fun _ => by simp [step, ho, hh]⟩
    · rw [ih.2 hd]
      exact ⟨fun h => absurd h.1 hd, fun _ => rfl⟩
  · rw [if_neg ho, if_neg ho]
    by_cases hd : Dis (goods l)
    · obtain ⟨x, hx, hr⟩ := ih.1 hd
      rw [hx]
      exact ⟨fun _ => ⟨x, by simp [step, ho], hr⟩, fun h => absurd hd h⟩
    · rw [ih.2 hd]
      exact ⟨fun h => absurd h hd, fun _ => rfl⟩
theorem st_some {l : List Opt} {x : Lcp} {o : List Opt} (h : st l = some (x, o)) : Dis (goods l) ∧ o = odds l ∧ Rep x (goods l) := by
  rcases Classical.em (Dis (goods l)) with hd | hd
  · obtain ⟨y, hy, hr⟩ := (st_spec l).1 hd
    rw [h] at hy
    cases hy
    exact ⟨hd, rfl, hr⟩
  · rw [(st_spec l).2 hd] at h; cases h
/-! ### put -/
theorem mem_put {x : Lcp} {t : UInt8} {d : ByteArray} : (t, d) ∈ put x ↔ known t = true ∧ has t x = true ∧ d = dat t x := by
  unfold put
  rw [List.mem_filterMap]
  constructor
  · rintro ⟨u, hu, e⟩
    split at e
    · rename_i hh
      simp only [Option.some.injEq, Prod.mk.injEq] at e
      obtain ⟨rfl, rfl⟩ := e
      exact ⟨known_iff.2 hu, hh, rfl⟩
    · cases e
  · rintro ⟨hk, hh, rfl⟩
    exact ⟨t, known_iff.1 hk, by rw [if_pos hh]⟩
theorem dat_good {x : Lcp} (hx : may x = true) {t : UInt8} (ht : known t = true) (hh : has t x = true) : good (t, dat t x) = true := by
  have ha := ((may_iff x).1 hx).1
  rcases known_cases ht with e | e | e | e | e | e <;> subst e
  · show decide ((bOf (numS x.mru.toNat 2)).size = 2) = true
    rw [size_bOf, numS_length]; rfl
  · show decide ((bOf (numS x.accm.toNat 4)).size = 4) = true
    rw [size_bOf, numS_length]; rfl
  · show (authK (authD x.auth) != 0) = true
    rw [authK_authD _ ha]; exact hh
  · show decide ((bOf (numS x.magic.toNat 4)).size = 4) = true
    rw [size_bOf, numS_length]; rfl
  · rfl
  · rfl
theorem put_good {x : Lcp} (hx : may x = true) : ∀ o ∈ put x, good o = true := by
  rintro ⟨t, d⟩ ho
  obtain ⟨hk, hh, rfl⟩ := mem_put.1 ho
  exact dat_good hx hk hh
theorem put_rep {x : Lcp} (hx : may x = true) : Rep x (put x) :=
  ⟨hx, fun t ht => ⟨fun h => ⟨dat t x, mem_put.2 ⟨ht, h, rfl⟩⟩, fun ⟨d, hd⟩ => (mem_put.1 hd).2.1⟩, fun t d hd => (mem_put.1 hd).2.2.symm⟩
def Rise (l : List Opt) : Prop := l.Pairwise fun a b => a.1 < b.1
theorem put_rise (x : Lcp) : Rise (put x) := by
  unfold Rise put
  rw [List.pairwise_filterMap]
  have hp : six.Pairwise (· < ·) := by decide
  refine hp.imp ?_
  intro a b hab o ho p hp
  split at ho
  · split at hp
    · cases ho; cases hp; exact hab
    · cases hp
  · cases ho
theorem u8_lt_irrefl (a : UInt8) : ¬ a < a := fun h => Nat.lt_irrefl _ (UInt8.lt_iff_toNat_lt.1 h)
theorem u8_lt_trans {a b c : UInt8} (h : a < b) (k : b < c) : a < c := UInt8.lt_iff_toNat_lt.2 (Nat.lt_trans (UInt8.lt_iff_toNat_lt.1 h) (UInt8.lt_iff_toNat_lt.1 k))
theorem u8_lt_asymm {a b : UInt8} (h : a < b) : ¬ b < a := fun k => u8_lt_irrefl _ (u8_lt_trans h k)
theorem rise_dis {l : List Opt} (h : Rise l) : Dis l := by
  unfold Dis
  rw [List.nodup_iff_pairwise_ne, List.pairwise_map]
  refine List.Pairwise.imp ?_ (show l.Pairwise fun a b => a.1 < b.1 from h)
  intro a b hab e
  rw [e] at hab
  exact u8_lt_irrefl _ hab
theorem rise_unique : ∀ {l m : List Opt}, Rise l → Rise m → (∀ o, o ∈ l ↔ o ∈ m) → l = m
  | [], [], _, _, _ => rfl
  | [], b :: m, _, _, h => by have := (h b).2 (by simp); cases this
  | a :: l, [], _, _, h => by have := (h a).1 (by simp); cases this
  | a :: l, b :: m, hl, hm, h => by
    obtain ⟨l1, l2⟩ := List.pairwise_cons.1 hl
    obtain ⟨m1, m2⟩ := List.pairwise_cons.1 hm
    have e : a = b := by
      rcases List.mem_cons.1 ((h a).1 (by simp)) with e | ha
      · exact e
      · rcases List.mem_cons.1 ((h b).2 (by simp)) with e | hb
        · exact e.symm
        · exact absurd (l1 b hb) (u8_lt_asymm (m1 a ha))
    subst e
    congr 1
    refine rise_unique l2 m2 fun o => ⟨fun ho => ?_, fun ho => ?_⟩
    · rcases List.mem_cons.1 ((h o).1 (by simp [ho])) with e | ho'
      · subst e; exact absurd (l1 _ ho) (u8_lt_irrefl _)
      · exact ho'
    · rcases List.mem_cons.1 ((h o).2 (by simp [ho])) with e | ho'
      · subst e; exact absurd (m1 _ ho) (u8_lt_irrefl _)
      · exact ho'
theorem goods_all {l : List Opt} (h : ∀ o ∈ l, good o = true) : goods l = l := List.filter_eq_self.2 h
theorem odds_all {l : List Opt} (h : ∀ o ∈ l, good o = true) : odds l = [] := by
  unfold odds
  rw [List.filter_eq_nil_iff]
  intro o ho
  simp [h o ho]
theorem st_put {x : Lcp} (hx : may x = true) : st (put x) = some (x, []) := by
  have hg := put_good hx
  obtain ⟨y, hy, hr⟩ := (st_spec (put x)).1 (by rw [goods_all hg]; exact rise_dis (put_rise x))
  rw [odds_all hg] at hy
  rw [goods_all hg] at hr
  rw [hy, hr.unique (put_rep hx) (fun _ => Iff.rfl)]
theorem nodup_len : ∀ {l m : List Opt}, l.Nodup → (∀ o ∈ l, o ∈ m) → l.length ≤ m.length
  | [], m, _, _ => Nat.zero_le _
  | a :: l, m, hn, h => by
    obtain ⟨h1, h2⟩ := List.nodup_cons.1 hn
    obtain ⟨m1, m2, rfl⟩ := List.append_of_mem (h a (by simp))
    have := nodup_len (l := l) (m := m1 ++ m2) h2 (fun o ho => by
      have h3 := h o (by simp [ho])
      rw [List.mem_append, List.mem_cons] at h3
      rw [List.mem_append]
      rcases h3 with h3 | rfl | h3
      · exact .inl h3
      · exact absurd ho h1
      · exact .inr h3)
    rw [List.length_append] at this
    rw [List.length_cons, List.length_append, List.length_cons]
    omega
end Go.Proofs.YtpppggicihfbgaaGreat.Lco

/- A policy of LCP's options: what is asked, what is said of each option, what a reply changes. Plain mathematics, of no program. -/
namespace Go.Proofs.YtpppggicihfbgaaGreat.Pol
open Go.Proofs.YtpppggicihfbgaaGreat.Oct Go.Proofs.YtpppggicihfbgaaGreat.Opt Go.Proofs.YtpppggicihfbgaaGreat.Lco

structure Conf where
  mru : UInt16
  ha : Bool
  accm : UInt32
  auth : UInt8
  takes : UInt8
  can : UInt8
  mg : Bool
  pfc : Bool
  acfc : Bool
  mn : Int
deriving DecidableEq
def cv (c : Conf) : List Value := [.int .u16 c.mru.toNat, .bool c.ha, .int .u32 c.accm.toNat, .int .u8 c.auth.toNat, .int .u8 c.takes.toNat, .int .u8 c.can.toNat, .bool c.mg, .bool c.pfc, .bool c.acfc, .int .i64 c.mn]
structure Po where
  w : Lcp
  c : Conf
  mine : Lcp
  peer : Lcp
  naks : Nat
  loops : Nat
  bad : Bool
def pv (p : Po) : List Value := lv p.w ++ (cv p.c ++ (lv p.mine ++ (lv p.peer ++ [.int .i64 p.naks, .int .i64 p.loops, .bool p.bad])))

def fits (a t : UInt8) : Bool := if a = 0 then t == 0 else t &&& a != 0
def mayC (c : Conf) : Bool := (c.mru == 0 || decide (64 ≤ c.mru)) && (c.ha || c.accm == 0) && decide (c.auth ≤ 2) && decide (c.takes ≤ 3) && decide (c.can ≤ 3) && fits c.auth c.takes && decide (1 ≤ c.mn) && decide (c.mn ≤ 10)
def nz (v : UInt32) : UInt32 := if v = 0 then 1 else v
def wish (c : Conf) (m : UInt32) : Lcp := ⟨c.mru != 0, c.mru, c.ha, c.accm, c.auth, c.mg, if c.mg then nz m else 0, c.pfc, c.acfc⟩
def newP (c : Conf) (m : UInt32) : Po := ⟨wish c m, c, lz, lz, 0, 0, false⟩
def req (p : Po) : List Opt := put p.w

/-! ### what is said of an option -/
def isOwn (w x : Lcp) : Bool := w.hg && x.hg && x.magic == w.magic
def lo (o : Opt) : Lcp := gL [o]
def bet (p : Po) (t : UInt8) (x : Lcp) : Lcp :=
  if t = 1 then { x with mru := if x.mru < 64 then 64 else x.mru }
  else if t = 3 then { x with auth := if p.c.can &&& x.auth != 0 then x.auth else if p.c.can &&& 2 != 0 then 2 else 1 }
  else if t = 5 then (if x.magic != 0 && !isOwn p.w x then x else if isOwn p.w { x with magic := nz (~~~ x.magic) } then { x with magic := 1 } else { x with magic := nz (~~~ x.magic) })
  else x
def sug (p : Po) (o : Opt) : Opt := (o.1, dat o.1 (bet p o.1 (lo o)))
def acc (p : Po) (o : Opt) : Bool := if o.1 = 3 then p.c.can != 0 else good o
structure Ver where
  got : Opt
  rej : Bool
  bet : Opt
deriving DecidableEq
def zo : Opt := (0, ByteArray.empty)
def seen (l : List Opt) (t : UInt8) : Bool := l.any fun o => o.1 == t
def ver (p : Po) (l : List Opt) (o : Opt) : Ver := if seen l o.1 || !acc p o then ⟨o, true, zo⟩ else ⟨o, false, sug p o⟩
def vs (p : Po) (l : List Opt) : List Ver := (List.range l.length).map fun i => ver p (l.take i) (l.getD i zo)
def poor (v : Ver) : Bool := !v.rej && !decide (v.bet = v.got)
def refs (l : List Ver) : List Opt := l.filterMap fun v => if v.rej then some v.got else none
def poors (l : List Ver) : List Opt := l.filterMap fun v => if poor v then some v.got else none
def insts (l : List Ver) : List Opt := l.filterMap fun v => if poor v then some v.bet else none
def own (p : Po) (l : List Opt) : Bool := l.any fun o => isOwn p.w (lo o)

def loopP (p : Po) (l : List Opt) : Po := if own p l then { p with loops := p.loops + 1 } else p
def jC (p : Po) (l : List Opt) : Nat := if refs (vs p l) ≠ [] then 4 else if poors (vs p l) ≠ [] then (if (p.naks : Int) = p.c.mn then 4 else 3) else 2
def jA (p : Po) (l : List Opt) : List Opt := if refs (vs p l) ≠ [] then refs (vs p l) else if poors (vs p l) ≠ [] then (if (p.naks : Int) = p.c.mn then poors (vs p l) else insts (vs p l)) else l
def jP (p : Po) (l : List Opt) : Po :=
  if refs (vs p l) ≠ [] then { loopP p l with naks := 0 }
  else if poors (vs p l) ≠ [] then (if (p.naks : Int) = p.c.mn then { loopP p l with naks := 0 } else { loopP p l with naks := p.naks + 1 })
  else { loopP p l with naks := 0, peer := gL l }

/-! ### replies -/
def akB (p : Po) (l : List Opt) : Bool := decide (l = req p)
def akP (p : Po) (l : List Opt) : Po := if akB p l then { p with mine := p.w } else p
def nkB (l : List Opt) : Bool := decide (l ≠ []) && gE l == 0
def nkW (c : Conf) (w x : Lcp) (d : UInt32) (m : UInt8 → Bool) : Lcp :=
  { w with
    mru := if m 1 && w.hm && decide (64 ≤ x.mru) then x.mru else w.mru
    accm := if m 2 && w.ha then w.accm ||| x.accm else w.accm
    auth := if m 3 && w.auth != 0 && c.takes &&& x.auth != 0 then x.auth else w.auth
    magic := if m 5 && w.hg then nz d else w.magic }
def nkP (p : Po) (d : UInt32) (l : List Opt) : Po := if nkB l then { p with w := nkW p.c p.w (gL l) d (fun t => has t (gL l)) } else p

/-! ### rows of verdicts -/
theorem vs_snoc (p : Po) (l : List Opt) (k : Nat) (o : Opt) (h : l[k]? = some o) : vs p (l.take (k + 1)) = vs p (l.take k) ++ [ver p (l.take k) o] := by
  obtain ⟨hk, rfl⟩ := List.getElem?_eq_some_iff.1 h
  unfold vs
  have e1 : (l.take (k + 1)).length = k + 1 := by rw [List.length_take]; omega
  have e0 : (l.take k).length = k := by rw [List.length_take]; omega
  rw [e1, e0, List.range_succ, List.map_append, List.map_cons, List.map_nil]
  congr 1
  · apply List.map_congr_left
    intro i hi
    have hi' : i < k := List.mem_range.1 hi
    rw [List.take_take, List.take_take, Nat.min_eq_left (by omega), Nat.min_eq_left (by omega)]
    congr 1
    rw [List.getD_eq_getElem?_getD, List.getD_eq_getElem?_getD, List.getElem?_take_of_lt (by omega), List.getElem?_take_of_lt hi']
  · rw [List.take_take, Nat.min_eq_left (by omega)]
    congr 2
    rw [List.getD_eq_getElem?_getD, List.getElem?_take_of_lt (by omega), List.getElem?_eq_getElem hk]
    rfl
theorem seen_snoc (l : List Opt) (k : Nat) (o : Opt) (h : l[k]? = some o) (t : UInt8) : seen (l.take (k + 1)) t = (seen (l.take k) t || o.1 == t) := by
  obtain ⟨hk, rfl⟩ := List.getElem?_eq_some_iff.1 h
  unfold seen
  rw [List.take_succ_eq_append_getElem hk, List.any_append]
  simp
theorem own_snoc (p : Po) (l : List Opt) (k : Nat) (o : Opt) (h : l[k]? = some o) : own p (l.take (k + 1)) = (own p (l.take k) || isOwn p.w (lo o)) := by
  obtain ⟨hk, rfl⟩ := List.getElem?_eq_some_iff.1 h
  unfold own
  rw [List.take_succ_eq_append_getElem hk, List.any_append]
  simp
end Go.Proofs.YtpppggicihfbgaaGreat.Pol
