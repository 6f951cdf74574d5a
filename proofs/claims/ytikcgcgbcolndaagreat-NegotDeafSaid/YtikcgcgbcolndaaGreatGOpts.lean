/- Put together: Opts, OptPure. -/
import Derived.Test.YtikcgcgbcolndaaGreatGPure
import Derived.Deep.Slices
import Derived.Deep.Fields
import Derived.SizedLaws
import Derived.WalkKit
import Derived.ProofKit
import Derived.Lib.SmallJoins

/- Rows of options (a byte and a text each) in memory: among the arguments, of the call's own. Of no program. -/
namespace Go.Proofs.YtikcgcgbcolndaaGreat.Opt
open Go.ChangeShapes Go.WideShapes Go.ChangeAt Go.RowKit Go.Joins Go.Deep Go.Proofs.YtikcgcgbcolndaaGreat.Oct

abbrev Opt := UInt8 × ByteArray
/-- The options' cells. -/
def optV (o : Opt) : List Value := [.int .u8 o.1.toNat, .string o.2]
def optsV (l : List Opt) : List Value := l.flatMap optV
theorem optsV_nil : optsV [] = [] := rfl
theorem optsV_append (l m : List Opt) : optsV (l ++ m) = optsV l ++ optsV m := by unfold optsV; rw [List.flatMap_append]
theorem optsV_one (o : Opt) : optsV [o] = [.int .u8 o.1.toNat, .string o.2] := by simp [optsV, optV]
theorem optsV_length : ∀ l : List Opt, (optsV l).length = l.length * 2
  | [] => rfl
  | o :: l => by
    show (optV o ++ optsV l).length = _
    rw [List.length_append, optsV_length l, List.length_cons]
    simp [optV]; omega
theorem optsV_ones (l : List Opt) : ∀ u ∈ optsV l, u.oneCell' = true := by
  intro u hu
  obtain ⟨o, _, ho⟩ := List.mem_flatMap.1 hu
  simp [optV] at ho
  rcases ho with rfl | rfl <;> rfl
theorem optsV_at : ∀ (l : List Opt) (j : Nat) (h : j < l.length), (optsV l)[j * 2]? = some (.int .u8 l[j].1.toNat) ∧ (optsV l)[j * 2 + 1]? = some (.string l[j].2)
  | o :: l, 0, _ => ⟨rfl, rfl⟩
  | o :: l, j + 1, h => by
    have := optsV_at l j (by simpa using h)
    have e : optsV (o :: l) = .int .u8 o.1.toNat :: .string o.2 :: optsV l := rfl
    rw [e, show (j + 1) * 2 = j * 2 + 1 + 1 by omega]
    simpa using this

/-- The slice '.slice A n c' holds the options l, in blocks below B. -/
def Opts (w : World) (B : Nat) (A : Option Addr) (n : Nat) (l : List Opt) : Prop :=
  l.length = n ∧ (∀ o ∈ l, o.2.size ≤ 140737488351232) ∧ (0 < n → ∃ ad, A = some ad ∧ ad.block < B ∧ ∀ j (h : j < l.length), w.cell? (ad.add (j * 2)) = some (.int .u8 l[j].1.toNat) ∧ w.cell? ⟨(ad.add (j * 2)).block, (ad.add (j * 2)).off + 1, none⟩ = some (.string l[j].2))
theorem Opts.below {w w' : World} {B : Nat} {A : Option Addr} {n : Nat} {l : List Opt} (h : Opts w B A n l) (hb : Below B w w') : Opts w' B A n l :=
  ⟨h.1, h.2.1, fun hn => by
    obtain ⟨ad, e, hB, hc⟩ := h.2.2 hn
    exact ⟨ad, e, hB, fun j hj => ⟨(hb.cell (by rw [Oct.block_add]; exact hB)).trans (hc j hj).1, (hb.cell (by show (ad.add (j * 2)).block < B; rw [Oct.block_add]; exact hB)).trans (hc j hj).2⟩⟩⟩
theorem Opts.more {w : World} {B B' : Nat} {A : Option Addr} {n : Nat} {l : List Opt} (h : Opts w B A n l) (hb : B ≤ B') : Opts w B' A n l :=
  ⟨h.1, h.2.1, fun hn => by
    obtain ⟨ad, e, hB, hc⟩ := h.2.2 hn
    exact ⟨ad, e, by omega, hc⟩⟩
theorem Opts.callee {w w' : World} {B : Nat} {A : Option Addr} {n : Nat} {l : List Opt} (h : Opts w B A n l) (hb : Below w.heap.size w w') (hB : B ≤ w.heap.size) : Opts w' B A n l := h.below (hb.mono hB)
theorem Opts.at_ {w : World} {B : Nat} {A : Option Addr} {n k : Nat} {l : List Opt} (h : Opts w B A n l) (hk : k < n) :
    ∃ ad o, A = some ad ∧ ad.block < B ∧ l[k]? = some o ∧ o.2.size ≤ 140737488351232 ∧ w.cell? (ad.add (k * 2)) = some (.int .u8 o.1.toNat) ∧ w.cell? ⟨(ad.add (k * 2)).block, (ad.add (k * 2)).off + 1, none⟩ = some (.string o.2) := by
  obtain ⟨ad, e, hB, hc⟩ := h.2.2 (by omega)
  have hl : k < l.length := by rw [h.1]; exact hk
  exact ⟨ad, l[k], e, hB, List.getElem?_eq_getElem hl, h.2.1 _ (List.getElem_mem hl), hc k hl⟩
theorem Opts.next {w w' : World} {A : Option Addr} {n : Nat} {l : List Opt} (h : Opts w w.heap.size A n l) (hb : Below w.heap.size w w') : Opts w' w'.heap.size A n l := (h.below hb).more hb.size
theorem Opts.laid {w : World} {A : Option Addr} {n : Nat} {l : List Opt} (h : Opts w w.heap.size A n l) (o : Obj) : Opts (w.alloc o) (w.alloc o).heap.size A n l := h.next ((Below.refl _ w).alloc (Nat.le_refl _) o)
theorem opts_nil (w : World) (B : Nat) : Opts w B none 0 [] := ⟨rfl, (fun _ h => by cases h), (fun h => absurd h (Nat.lt_irrefl _))⟩
theorem opts_own {w : World} {base n : Nat} {e : TypeId} {v : Value} {l : List Opt} (h : w.ownsRow base e 2 v n (optsV l)) (hz : ∀ o ∈ l, o.2.size ≤ 140737488351232) :
    ∃ A c, v = .slice A n c ∧ Opts w w.heap.size A n l := by
  have hl : l.length = n := by have := h.1; rw [optsV_length] at this; omega
  rcases h.2 with ⟨rfl, rfl⟩ | ⟨g, cap, cur, rfl, hg, hh, _⟩
  · exact ⟨none, 0, rfl, hl, hz, fun h0 => absurd h0 (by omega)⟩
  · have hlt : g < w.heap.size := (Array.getElem?_eq_some_iff.1 hh).1
    refine ⟨some ⟨g, 0, none⟩, cap, rfl, hl, hz, fun _ => ⟨_, rfl, hlt, fun j hj => ?_⟩⟩
    have hv := optsV_at l j hj
    have c0 := h.cells (g := g) rfl (j * 2) _ hv.1
    have c1 := h.cells (g := g) rfl (j * 2 + 1) _ hv.2
    refine ⟨c0, ?_⟩
    rw [← add_add] at c1
    exact c1
/-- The cells, one by one. -/
theorem opts_cells {w : World} {B n : Nat} {ad : Addr} {l : List Opt} (h : Opts w B (some ad) n l) : ∀ j u, (optsV l)[j]? = some u → w.cell? (ad.add j) = some u := by
  intro j u hu
  have hj : j / 2 < l.length := by
    have := (List.getElem?_eq_some_iff.1 hu).1
    rw [optsV_length] at this
    omega
  obtain ⟨ad', e, _, hc⟩ := h.2.2 (by have := h.1; omega)
  cases e
  obtain ⟨c0, c1⟩ := hc _ hj
  obtain ⟨v0, v1⟩ := optsV_at l _ hj
  rcases Nat.mod_two_eq_zero_or_one j with hm | hm
  · rw [show j / 2 * 2 = j by omega] at v0 c0
    rw [c0]; rw [v0] at hu; exact hu
  · rw [show j / 2 * 2 + 1 = j by omega] at v1
    rw [v1] at hu
    rw [← hu, ← c1, show j = j / 2 * 2 + 1 by omega, ← add_add]
    rw [show (j / 2 * 2 + 1) / 2 * 2 = j / 2 * 2 by omega]
    rfl
theorem all_mem {H : Type} {P : Program} {e : TypeId} : ∀ {l : List (DataW H)} {d : DataW H}, d ∈ l → ∀ n ∈ d.weights P e, n ∈ DataW.weightsAll P e l
  | x :: l, d, hd, n, hn => by
    rw [DataW.weightsAll, List.mem_append]
    rcases List.mem_cons.1 hd with rfl | hd
    · exact .inl hn
    · exact .inr (all_mem hd n hn)
theorem take_one {l : List Value} {i : Nat} {v : Value} (h : l[i]? = some v) : (l.drop i).take 1 = [v] := by
  obtain ⟨hi, rfl⟩ := List.getElem?_eq_some_iff.1 h
  rw [List.drop_eq_getElem_cons hi]
  rfl
theorem u8_of {z : Int} (h0 : 0 ≤ z) (h : z ≤ 255) : ∃ c : UInt8, z = (c.toNat : Int) :=
  ⟨UInt8.ofNat z.toNat, by rw [UInt8.toNat_ofNat']; omega⟩
theorem opts_of {H : Type} {enc : TypeId × Value → H} {P : Program} {W : World} {base : Nat} {t e : TypeId} {f0 f1 : Field} {v : Value} {d : DataW H} {p : List MemPlace} (ht : P.underlying t = some (.slice e)) (he : P.underlying e = some (.struct #[f0, f1]))
    (hone : oneCellFields P #[f0, f1] = true) (hC : P.cellsOf e = 2) (u0 : P.underlying f0.type = some (.int .u8)) (u1 : P.underlying f1.type = some .string)
    (hv : Value.okWide P W .any base t v) (h : DataW.Trod enc P W 0 (fun _ => true) true t v d p) (hsz : ∀ n ∈ d.weights P t, n ≤ reachBytes) : ∃ A n c, v = .slice A n c ∧ n ≤ maxLen ∧ (A = none → c = 0) ∧ ∃ l, Opts W W.heap.size A n l := by
  obtain ⟨a0, len, cap, rfl⟩ := okWide_slice ht hv
  obtain ⟨fuel, hf⟩ := h
  rcases open_slice ht hf with ⟨hcs, hx⟩ | ⟨a, len', cap', m, n, D, Pl, hcs, _, hl, hm, hmm, hx, hi⟩
  · simp [Value.cells] at hcs
    obtain ⟨rfl, rfl, rfl⟩ := hcs
    exact ⟨none, 0, 0, rfl, by simp [maxLen], (fun _ => rfl), [], opts_nil _ _⟩
  · simp [Value.cells] at hcs
    obtain ⟨rfl, rfl, rfl⟩ := hcs
    refine ⟨some a, len, cap, rfl, by omega, (fun h => by cases h), ?_⟩
    have key1 : ∀ j, j < len → ∃ o : Opt, a.block < W.heap.size ∧ o.2.size ≤ 140737488351232 ∧ W.cell? (a.add (j * 2)) = some (.int .u8 o.1.toNat) ∧ W.cell? ((a.add (j * 2)).add 1) = some (.string o.2) := by
      intro j hj
      have hjm : j < m := by rw [hmm]; simp; omega
      obtain ⟨cs, hc, htr⟩ := hi j hjm
      rw [hC] at hc
      obtain ⟨_, hcl, hat⟩ := World.cells?_some hc
      obtain ⟨xs, n', _, hD, _, hxl, hg⟩ := DataW.trod_struct he htr
      have key : ∀ (i : Nat) (f : Field), (#[f0, f1] : Array Field)[i]? = some f → i < 2 → ∃ u y, cs[i]? = some u ∧ xs[i]? = some y ∧ DataW.trod enc P W 0 (fun _ => true) true n' f.type [u] = some y ∧ W.cell? ((a.add (j * 2)).add i) = some u := by
        intro i f hfi hi5
        obtain ⟨ho, hk⟩ := hone_of hone i f hfi
        have hu : cs[i]? = some (cs[i]'(by omega)) := List.getElem?_eq_getElem (by omega)
        have hy : xs[i]? = some (xs[i]'(by simp at hxl; omega)) := List.getElem?_eq_getElem (by simp at hxl; omega)
        have h1 := hg i f hfi
        rw [ho, hk, take_one hu] at h1
        exact ⟨_, _, hu, hy, h1.trans hy, (hat i hi5).trans hu⟩
      obtain ⟨v0, y0, _, e0, t0, k0⟩ := key 0 f0 rfl (by omega)
      obtain ⟨v1, y1, _, e1, t1, k1⟩ := key 1 f1 rfl (by omega)
      obtain ⟨z, q0, _, w0⟩ := DataW.trod_int u0 t0
      obtain ⟨S, q1, r1, _⟩ := DataW.trod_string u1 t1
      have b0 := bounds_u8 w0
      obtain ⟨c, rfl⟩ := u8_of (z := z) (by omega) (by omega)
      cases q0; cases q1
      have hblk : a.block < W.heap.size := by
        have := World.block_lt_of_cell? W _ k0
        rwa [Oct.block_add, Oct.block_add] at this
      refine ⟨(c, S), hblk, ?_, by rw [add_add] at k0; exact k0, k1⟩
      have hd : d = .slice ((List.range len).map D) ((List.range (m - len)).map fun j => D (len + j)) := congrArg Prod.fst hx
      have hmem : D j ∈ (List.range len).map D := List.mem_map.2 ⟨j, List.mem_range.2 hj, rfl⟩
      have hDj : D j = .agg (xs.map (·.1)) := congrArg Prod.fst hD
      have hw : S.data.toList.length ∈ (D j).weights P e := by
        rw [hDj]
        unfold DataW.weights
        rw [he]
        refine DataW.weights_mem_each (j := 1) (t := f1.type) rfl (d := .lit (.string S.data.toList)) ?_ _ ?_
        · rw [List.getElem?_map, e1, r1]; rfl
        · unfold DataW.weights; simp
      have h2 := hsz _ (by
        rw [hd]
        unfold DataW.weights
        rw [ht]
        exact List.mem_cons.2 (.inr (List.mem_append.2 (.inl (all_mem hmem _ hw)))))
      rw [Array.length_toList] at h2
      exact h2
    obtain ⟨f, hf⟩ := choose_lt (α := Opt) key1
    refine ⟨(List.range len).map f, by simp, fun o ho => ?_, fun h0 => ⟨a, rfl, (hf 0 h0).1, fun j hj => ?_⟩⟩
    · obtain ⟨j, hj, rfl⟩ := List.mem_map.1 ho
      exact (hf j (List.mem_range.1 hj)).2.1
    · have hj' : j < len := by simpa using hj
      have := (hf j hj').2.2
      simp only [List.getElem_map, List.getElem_range]
      exact this
end Go.Proofs.YtikcgcgbcolndaaGreat.Opt

/- Options as lists: their bytes, what bytes are, item by item. Plain mathematics, of no program. -/
namespace Go.Proofs.YtikcgcgbcolndaaGreat.Opt
open Go.Proofs.YtikcgcgbcolndaaGreat.Oct

def encO (o : Opt) : List UInt8 := o.1 :: UInt8.ofNat (2 + o.2.size) :: o.2.toList
def enc (l : List Opt) : List UInt8 := l.flatMap encO
def big (l : List Opt) : Bool := l.any fun o => decide (253 < o.2.size)
def wt : List Opt → Nat
  | [] => 0
  | o :: l => (2 + o.2.size) + wt l
def pE (l : List Opt) : Nat := if 64 < l.length then 4 else if big l = true then 2 else if 1496 < wt l then 5 else 0
def pA (l : List Opt) : List UInt8 := if pE l = 0 then enc l else []

theorem enc_nil : enc [] = [] := rfl
theorem enc_cons (o : Opt) (l : List Opt) : enc (o :: l) = encO o ++ enc l := rfl
theorem enc_append (l m : List Opt) : enc (l ++ m) = enc l ++ enc m := by unfold enc; rw [List.flatMap_append]
theorem encO_length (o : Opt) : (encO o).length = 2 + o.2.size := by unfold encO; rw [List.length_cons, List.length_cons, ← size_toList]; omega
theorem enc_length : ∀ l : List Opt, (enc l).length = wt l
  | [] => rfl
  | o :: l => by rw [enc_cons, List.length_append, encO_length, enc_length l, wt]
theorem wt_append : ∀ l m : List Opt, wt (l ++ m) = wt l + wt m
  | [], m => by simp [wt]
  | o :: l, m => by rw [List.cons_append, wt, wt, wt_append l m]; omega
theorem big_append (l m : List Opt) : big (l ++ m) = (big l || big m) := List.any_append
theorem big_false {l : List Opt} : big l = false ↔ ∀ o ∈ l, o.2.size ≤ 253 := by
  unfold big
  rw [List.any_eq_false]
  constructor
  · intro h o ho; have := h o ho; simp only [decide_eq_true_eq] at this; omega
  · intro h o ho; have := h o ho; simp only [decide_eq_true_eq]; omega
theorem wt_le : ∀ {l : List Opt}, big l = false → wt l ≤ 255 * l.length
  | [], _ => by simp [wt]
  | o :: l, h => by
    have h' := big_false.1 h
    have h1 := h' o (by simp)
    have h2 := wt_le (l := l) (big_false.2 fun x hx => h' x (by simp [hx]))
    rw [wt, List.length_cons]; omega
theorem take_wt (l : List Opt) (k : Nat) (h : k < l.length) : wt (l.take (k + 1)) = wt (l.take k) + (2 + l[k].2.size) := by
  rw [List.take_succ_eq_append_getElem h, wt_append]; rfl
theorem take_enc (l : List Opt) (k : Nat) (h : k < l.length) : enc (l.take (k + 1)) = enc (l.take k) ++ encO l[k] := by
  rw [List.take_succ_eq_append_getElem h, enc_append]; simp [enc]
theorem take_big (l : List Opt) (k : Nat) (h : k < l.length) : big (l.take (k + 1)) = (big (l.take k) || decide (253 < l[k].2.size)) := by
  rw [List.take_succ_eq_append_getElem h, big_append]; simp [big]
theorem big_of_take {l : List Opt} {k : Nat} (h : big (l.take k) = true) : big l = true := by
  have := big_append (l.take k) (l.drop k)
  rw [List.take_append_drop] at this
  rw [this, h]; rfl
theorem pE_zero {l : List Opt} : pE l = 0 ↔ l.length ≤ 64 ∧ big l = false ∧ wt l ≤ 1496 := by
  unfold pE
  constructor
  · intro h
    split at h
    · cases h
    · split at h
      · cases h
      · split at h
        · cases h
        · rename_i h1 h2 h3; exact ⟨by omega, by simpa using h2, by omega⟩
  · rintro ⟨h1, h2, h3⟩
    rw [if_neg (by omega), if_neg (by rw [h2]; decide), if_neg (by omega)]
theorem pA_yes {l : List Opt} (h : pE l = 0) : pA l = enc l := if_pos h
theorem pA_no {l : List Opt} (h : pE l ≠ 0) : pA l = [] := if_neg h
theorem pA_le (l : List Opt) : (pA l).length ≤ 1496 := by
  by_cases h : pE l = 0
  · rw [pA_yes h, enc_length]; exact (pE_zero.1 h).2.2
  · rw [pA_no h]; simp
theorem pE_join (l m : List Opt) (h : pE l ≠ 0 ∨ pE m ≠ 0) : pE (l ++ m) ≠ 0 := by
  intro e
  obtain ⟨h1, h2, h3⟩ := pE_zero.1 e
  rw [List.length_append] at h1
  rw [big_append, Bool.or_eq_false_iff] at h2
  rw [wt_append] at h3
  rcases h with h | h
  · exact h (pE_zero.2 ⟨by omega, h2.1, by omega⟩)
  · exact h (pE_zero.2 ⟨by omega, h2.2, by omega⟩)
theorem pE_full (l m : List Opt) (h : 64 < l.length + m.length) : pE (l ++ m) = 4 := by
  unfold pE
  rw [if_pos (by rw [List.length_append]; exact h)]
theorem pE_long (l m : List Opt) (hl : pE l = 0) (hm : pE m = 0) (h : l.length + m.length ≤ 64) (hw : 1496 < wt l + wt m) : pE (l ++ m) = 5 := by
  unfold pE
  rw [if_neg (by rw [List.length_append]; omega), if_neg (by rw [big_append, (pE_zero.1 hl).2.1, (pE_zero.1 hm).2.1]; decide), if_pos (by rw [wt_append]; exact hw)]
theorem pE_both (l m : List Opt) (hl : pE l = 0) (hm : pE m = 0) (h : l.length + m.length ≤ 64) (hw : wt l + wt m ≤ 1496) : pE (l ++ m) = 0 ∧ pA (l ++ m) = pA l ++ pA m := by
  have e : pE (l ++ m) = 0 := pE_zero.2 ⟨by rw [List.length_append]; exact h, by rw [big_append, (pE_zero.1 hl).2.1, (pE_zero.1 hm).2.1]; rfl, by rw [wt_append]; exact hw⟩
  exact ⟨e, by rw [pA_yes e, pA_yes hl, pA_yes hm, enc_append]⟩

/-- What stands at the head of bytes: an option, or what is wrong. -/
def rd (s : List UInt8) : Opt × Nat :=
  if s.length < 2 then ((0, ByteArray.empty), 6)
  else if (s.getD 1 0).toNat < 2 then ((0, ByteArray.empty), 7)
  else if s.length < (s.getD 1 0).toNat then ((0, ByteArray.empty), 6)
  else ((s.getD 0 0, bOf ((s.drop 2).take ((s.getD 1 0).toNat - 2))), 0)
abbrev Item := Nat × Opt × Nat
/-- The options of bytes, each with its place; the first one that is wrong is the last. -/
def seq (s : List UInt8) (p : Nat) : List Item :=
  if h : s = [] then [] else
    (p, (rd s).1, (rd s).2) :: if (rd s).2 = 0 then seq (s.drop (2 + (rd s).1.2.size)) (p + (2 + (rd s).1.2.size)) else []
termination_by s.length
decreasing_by
  have : 0 < s.length := List.length_pos_iff.2 h
  rw [List.length_drop]; omega
/-- What becomes of items, those of l having come. -/
def fi (N : Nat) : List Opt → List Item → List Opt × Nat × Nat
  | l, [] => (l, N, 0)
  | l, x :: r => if l.length = 64 then ([], x.1, 4) else if x.2.2 ≠ 0 then ([], x.1, x.2.2) else fi N (l ++ [x.2.1]) r
def got (s : List UInt8) : List Opt × Nat × Nat := if 1496 < s.length then ([], 0, 5) else fi s.length [] (seq s 0)
def gL (s : List UInt8) : List Opt := (got s).1
def gN (s : List UInt8) : Nat := (got s).2.1
def gE (s : List UInt8) : Nat := (got s).2.2

theorem seq_nil (p : Nat) : seq [] p = [] := by rw [seq, dif_pos rfl]
theorem seq_bad {s : List UInt8} (h : s ≠ []) (hb : (rd s).2 ≠ 0) (p : Nat) : seq s p = [(p, (rd s).1, (rd s).2)] := by rw [seq, dif_neg h, if_neg hb]
theorem seq_good {s : List UInt8} (h : s ≠ []) (hb : (rd s).2 = 0) (p : Nat) : seq s p = (p, (rd s).1, 0) :: seq (s.drop (2 + (rd s).1.2.size)) (p + (2 + (rd s).1.2.size)) := by rw [seq, dif_neg h, if_pos hb, hb]
theorem rd_cases (s : List UInt8) : (s.length < 2 ∧ rd s = ((0, ByteArray.empty), 6)) ∨ (2 ≤ s.length ∧ (s.getD 1 0).toNat < 2 ∧ rd s = ((0, ByteArray.empty), 7)) ∨ (2 ≤ s.length ∧ 2 ≤ (s.getD 1 0).toNat ∧ s.length < (s.getD 1 0).toNat ∧ rd s = ((0, ByteArray.empty), 6)) ∨
    (2 ≤ s.length ∧ 2 ≤ (s.getD 1 0).toNat ∧ (s.getD 1 0).toNat ≤ s.length ∧ rd s = ((s.getD 0 0, bOf ((s.drop 2).take ((s.getD 1 0).toNat - 2))), 0) ∧ 2 + (rd s).1.2.size = (s.getD 1 0).toNat) := by
  unfold rd
  by_cases h1 : s.length < 2
  · left; exact ⟨h1, if_pos h1⟩
  · by_cases h2 : (s.getD 1 0).toNat < 2
    · right; left; exact ⟨by omega, h2, by rw [if_neg h1, if_pos h2]⟩
    · by_cases h3 : s.length < (s.getD 1 0).toNat
      · right; right; left; exact ⟨by omega, by omega, h3, by rw [if_neg h1, if_neg h2, if_pos h3]⟩
      · right; right; right
        refine ⟨by omega, by omega, by omega, by rw [if_neg h1, if_neg h2, if_neg h3], ?_⟩
        rw [if_neg h1, if_neg h2, if_neg h3]
        simp only [size_bOf, List.length_take, List.length_drop]
        omega
/-- A good head is its option's bytes. -/
theorem rd_good {s : List UInt8} (h : (rd s).2 = 0) : s = encO (rd s).1 ++ s.drop (2 + (rd s).1.2.size) ∧ (rd s).1.2.size ≤ 253 ∧ 2 + (rd s).1.2.size ≤ s.length := by
  rcases rd_cases s with ⟨_, e⟩ | ⟨_, _, e⟩ | ⟨_, _, _, e⟩ | ⟨h1, h2, h3, e, hz⟩
  · rw [e] at h; cases h
  · rw [e] at h; cases h
  · rw [e] at h; cases h
  · match s, h1 with
    | a :: b :: d, _ =>
      simp only [List.getD_cons_zero, List.getD_cons_succ, List.length_cons] at h2 h3 e hz
      have hb := b.toNat_lt
      refine ⟨?_, by omega, by simp only [List.length_cons]; omega⟩
      rw [hz]
      unfold encO
      rw [hz, e]
      simp only [toList_bOf, List.drop_succ_cons, List.drop_zero, UInt8.ofNat_toNat, List.cons_append]
      congr 2
      have : (a :: b :: d).drop b.toNat = d.drop (b.toNat - 2) := by
        conv => lhs; rw [show b.toNat = (b.toNat - 2) + 1 + 1 by omega, List.drop_succ_cons, List.drop_succ_cons]
      rw [this, List.take_append_drop]
theorem rd_enc (o : Opt) (r : List UInt8) (h : o.2.size ≤ 253) : rd (encO o ++ r) = (o, 0) := by
  have e : (UInt8.ofNat (2 + o.2.size)).toNat = 2 + o.2.size := by rw [UInt8.toNat_ofNat']; omega
  unfold encO rd
  simp only [List.cons_append, List.length_cons, List.length_append, List.getD_cons_zero, List.getD_cons_succ, e, List.drop_succ_cons, List.drop_zero]
  rw [← size_toList, if_neg (by omega), if_neg (by omega), if_neg (by omega)]
  rw [show 2 + o.2.size - 2 = o.2.toList.length by rw [← size_toList]; omega, List.take_left, bOf_toList]
theorem seq_enc (o : Opt) (r : List UInt8) (p : Nat) (h : o.2.size ≤ 253) : seq (encO o ++ r) p = (p, o, 0) :: seq r (p + (2 + o.2.size)) := by
  have hr := rd_enc o r h
  rw [seq_good (by unfold encO; simp) (by rw [hr]), hr]
  simp only
  rw [List.drop_left' (encO_length o)]
theorem fi_enc (N : Nat) : ∀ (m l : List Opt) (p : Nat), l.length + m.length ≤ 64 → (∀ o ∈ m, o.2.size ≤ 253) → fi N l (seq (enc m) p) = (l ++ m, N, 0)
  | [], l, p, _, _ => by rw [enc_nil, seq_nil, fi, List.append_nil]
  | o :: m, l, p, h, hm => by
    rw [List.length_cons] at h
    rw [enc_cons, seq_enc o _ p (hm o (by simp)), fi, if_neg (by omega), if_neg (by simp), fi_enc N m (l ++ [o]) _ (by rw [List.length_append]; simp; omega) (fun x hx => hm x (by simp [hx]))]
    simp
/-- What was put is got. -/
theorem got_enc {l : List Opt} (h : pE l = 0) : got (pA l) = (l, (pA l).length, 0) := by
  obtain ⟨h1, h2, h3⟩ := pE_zero.1 h
  have hl := pA_le l
  unfold got
  rw [if_neg (by omega)]
  conv => lhs; rw [pA_yes h]
  rw [fi_enc _ l [] 0 (by simpa using h1) (big_false.1 h2), pA_yes h]; rfl
theorem fi_some (N : Nat) : ∀ (n : Nat) (s : List UInt8) (l : List Opt) (p : Nat), s.length ≤ n → l.length ≤ 64 → (fi N l (seq s p)).2.2 = 0 → ∃ m, fi N l (seq s p) = (l ++ m, N, 0) ∧ enc m = s ∧ l.length + m.length ≤ 64 ∧ ∀ o ∈ m, o.2.size ≤ 253
  | n, [], l, p, _, hl, _ => ⟨[], by rw [seq_nil, fi, List.append_nil], rfl, by simpa using hl, fun _ h => by cases h⟩
  | 0, a :: s, l, p, hn, _, _ => by simp at hn
  | n + 1, a :: s, l, p, hn, hl, h => by
    by_cases hb : (rd (a :: s)).2 = 0
    · have hg := rd_good hb
      rw [seq_good (by simp) hb] at h ⊢
      generalize ho : (rd (a :: s)).1 = o at *
      generalize hr : (a :: s).drop (2 + o.2.size) = r at *
      have hrl : r.length + (2 + o.2.size) = s.length + 1 := by rw [← hr, List.length_drop, List.length_cons]; have := hg.2.2; rw [List.length_cons] at this; omega
      rw [List.length_cons] at hn
      rw [fi] at h ⊢
      by_cases h64 : l.length = 64
      · rw [if_pos h64] at h; cases h
      · rw [if_neg h64, if_neg (by simp)] at h ⊢
        obtain ⟨m, e1, e2, e3, e4⟩ := fi_some N n r (l ++ [o]) _ (by omega) (by rw [List.length_append]; simp; omega) h
        refine ⟨o :: m, by rw [e1]; simp, by rw [enc_cons, e2]; exact hg.1.symm, by simp only [List.length_append, List.length_cons, List.length_nil] at e3 ⊢; omega, ?_⟩
        intro x hx
        rcases List.mem_cons.1 hx with rfl | hx
        · exact hg.2.1
        · exact e4 x hx
    · rw [seq_bad (by simp) hb, fi] at h
      split at h
      · cases h
      · exact absurd h hb
/-- What is got is put as it stood. -/
theorem enc_got {s : List UInt8} (h : gE s = 0) : got s = (gL s, s.length, 0) ∧ pE (gL s) = 0 ∧ pA (gL s) = s := by
  unfold gE gL got at *
  by_cases hs : 1496 < s.length
  · rw [if_pos hs] at h; cases h
  · rw [if_neg hs] at h ⊢
    obtain ⟨m, e1, e2, e3, e4⟩ := fi_some s.length s.length s [] 0 (Nat.le_refl _) (by simp) h
    rw [List.nil_append] at e1
    rw [e1]
    have hp : pE m = 0 := pE_zero.2 ⟨by simpa using e3, big_false.2 e4, by rw [← enc_length, e2]; omega⟩
    exact ⟨rfl, hp, by rw [pA_yes hp]; exact e2⟩
theorem fi_no (N : Nat) : ∀ (n : Nat) (s : List UInt8) (l : List Opt) (p : Nat), s.length ≤ n → p + s.length ≤ N → (fi N l (seq s p)).2.2 ≠ 0 → (fi N l (seq s p)).1 = [] ∧ (fi N l (seq s p)).2.1 ≤ N
  | n, [], l, p, _, _, h => by rw [seq_nil, fi] at h; exact absurd rfl h
  | 0, a :: s, l, p, hn, _, _ => by simp at hn
  | n + 1, a :: s, l, p, hn, hN, h => by
    rw [List.length_cons] at hn hN
    by_cases hb : (rd (a :: s)).2 = 0
    · have hg := rd_good hb
      rw [seq_good (by simp) hb, fi] at h ⊢
      by_cases h64 : l.length = 64
      · rw [if_pos h64]; exact ⟨rfl, by simp only; omega⟩
      · rw [if_neg h64, if_neg (by simp)] at h ⊢
        refine fi_no N n _ _ _ ?_ ?_ h
        · rw [List.length_drop, List.length_cons]; omega
        · have := hg.2.2; rw [List.length_cons] at this; rw [List.length_drop, List.length_cons]; omega
    · rw [seq_bad (by simp) hb, fi] at h ⊢
      split
      · exact ⟨rfl, by simp only; omega⟩
      · exact ⟨rfl, by simp only; omega⟩
theorem got_no {s : List UInt8} (h : gE s ≠ 0) : gL s = [] ∧ gN s ≤ s.length := by
  unfold gE gL gN got at *
  by_cases hs : 1496 < s.length
  · rw [if_pos hs]; exact ⟨rfl, Nat.zero_le _⟩
  · rw [if_neg hs] at h ⊢
    exact fi_no s.length s.length s [] 0 (Nat.le_refl _) (by omega) h
theorem gL_le (s : List UInt8) : (gL s).length ≤ 64 := by
  by_cases h : gE s = 0
  · exact (pE_zero.1 (enc_got h).2.1).1
  · rw [(got_no h).1]; simp
theorem gL_size (s : List UInt8) : ∀ o ∈ gL s, o.2.size ≤ 253 := by
  by_cases h : gE s = 0
  · exact big_false.1 (pE_zero.1 (enc_got h).2.1).2.1
  · rw [(got_no h).1]; intro o ho; cases ho
theorem gN_le (s : List UInt8) : gN s ≤ s.length := by
  by_cases h : gE s = 0
  · unfold gN; rw [(enc_got h).1]; exact Nat.le_refl _
  · exact (got_no h).2
theorem gE_le (s : List UInt8) : gE s ≤ 7 := by
  have rdle : ∀ t : List UInt8, (rd t).2 ≤ 7 := by
    intro t
    rcases rd_cases t with ⟨_, e⟩ | ⟨_, _, e⟩ | ⟨_, _, _, e⟩ | ⟨_, _, _, e, _⟩ <;> rw [e] <;> simp only <;> omega
  have key : ∀ (N n : Nat) (s : List UInt8) (l : List Opt) (p : Nat), s.length ≤ n → (fi N l (seq s p)).2.2 ≤ 7 := by
    intro N n
    induction n with
    | zero =>
      intro s l p hn
      have : s = [] := List.eq_nil_of_length_eq_zero (by omega)
      subst this; rw [seq_nil, fi]; exact Nat.zero_le _
    | succ n ih =>
      intro s l p hn
      cases s with
      | nil => rw [seq_nil, fi]; exact Nat.zero_le _
      | cons a s =>
        rw [List.length_cons] at hn
        by_cases hb : (rd (a :: s)).2 = 0
        · rw [seq_good (by simp) hb, fi]
          by_cases h64 : l.length = 64
          · rw [if_pos h64]; simp only; omega
          · rw [if_neg h64, if_neg (by simp)]
            exact ih _ _ _ (by rw [List.length_drop, List.length_cons]; omega)
        · rw [seq_bad (by simp) hb, fi]
          split
          · simp only; omega
          · exact rdle _
  unfold gE got
  split
  · decide
  · exact key _ _ _ _ _ (Nat.le_refl _)

/-- Items that have come and are right. -/
def okI (pre : List Item) : Prop := ∀ x ∈ pre, x.2.2 = 0
def optsI (pre : List Item) : List Opt := pre.map fun x => x.2.1
theorem fi_pre (N : Nat) : ∀ (pre rest : List Item) (l : List Opt), okI pre → l.length + pre.length ≤ 64 → fi N l (pre ++ rest) = fi N (l ++ optsI pre) rest
  | [], rest, l, _, _ => by simp [optsI]
  | x :: pre, rest, l, h, hl => by
    rw [List.length_cons] at hl
    rw [List.cons_append, fi, if_neg (by omega), if_neg (by simp [h x (by simp)]), fi_pre N pre rest _ (fun y hy => h y (by simp [hy])) (by rw [List.length_append]; simp; omega)]
    simp [optsI]
theorem optsI_snoc (pre : List Item) (x : Item) : optsI (pre ++ [x]) = optsI pre ++ [x.2.1] := by simp [optsI]
theorem okI_snoc {pre : List Item} {x : Item} (h : okI pre) (hx : x.2.2 = 0) : okI (pre ++ [x]) := by
  intro y hy
  rcases List.mem_append.1 hy with hy | hy
  · exact h y hy
  · rw [List.mem_singleton] at hy; subst hy; exact hx
/-- All items have come. -/
theorem got_done {s : List UInt8} (hs : s.length ≤ 1496) (h : okI (seq s 0)) (hl : (seq s 0).length ≤ 64) : got s = (optsI (seq s 0), s.length, 0) := by
  unfold got
  rw [if_neg (by omega)]
  have := fi_pre s.length (seq s 0) [] [] h (by simpa using hl)
  rw [List.append_nil, List.nil_append] at this
  rw [this, fi]
/-- An item that stops. -/
theorem got_stop {s : List UInt8} (hs : s.length ≤ 1496) {pre : List Item} {x : Item} (hp : pre ++ [x] <+: seq s 0) (h : okI pre) (hl : pre.length ≤ 64) (hx : pre.length = 64 ∨ x.2.2 ≠ 0) : got s = ([], x.1, if pre.length = 64 then 4 else x.2.2) := by
  obtain ⟨r, hr⟩ := hp
  unfold got
  rw [if_neg (by omega), ← hr, List.append_assoc, fi_pre s.length pre _ [] h (by simpa using hl), List.nil_append]
  have hlen : (optsI pre).length = pre.length := by simp [optsI]
  rw [List.singleton_append, fi, hlen]
  by_cases h64 : pre.length = 64
  · rw [if_pos h64, if_pos h64]
  · rw [if_neg h64, if_neg h64]
    rcases hx with hx | hx
    · exact absurd hx h64
    · rw [if_pos hx]
/-- The first option of a type; the options of others. -/
def fd (t : UInt8) (l : List Opt) : Option Opt := l.find? fun o => o.1 == t
def fA (t : UInt8) (l : List Opt) : Opt := (fd t l).getD (0, ByteArray.empty)
def fB (t : UInt8) (l : List Opt) : Bool := (fd t l).isSome
def wo (t : UInt8) (l : List Opt) : List Opt := l.filter fun o => !(o.1 == t)
theorem wo_snoc (t : UInt8) (l : List Opt) (k : Nat) (h : k < l.length) : wo t (l.take (k + 1)) = wo t (l.take k) ++ (if l[k].1 == t then [] else [l[k]]) := by
  rw [List.take_succ_eq_append_getElem h]
  unfold wo
  rw [List.filter_append]
  congr 1
  by_cases e : (l[k].1 == t) = true
  · rw [if_pos e]; simp [e]
  · rw [if_neg e]; simp at e; simp [e]
theorem wo_le (t : UInt8) (l : List Opt) : (wo t l).length ≤ l.length := List.length_filter_le _ _
end Go.Proofs.YtikcgcgbcolndaaGreat.Opt
