/- Put together: Opts, OptPure, OptAt, IpcPure, IppPure. -/
import Derived.Test.YtgefodpnhifmdaaGreatGTxt
import Derived.Deep.Slices
import Derived.Deep.Fields
import Derived.SizedLaws
import Derived.WalkKit
import Derived.ProofKit
import Derived.Lib.SmallJoins
import Derived.Test.YtgefodpnhifmdaaGreatGPure
import Derived.Test.YtgefodpnhifmdaaGreatProg
import Derived.OwnWalk
import Derived.Maps.AppendAt
import Derived.KernelRfl

/- Rows of options (a byte and a text each) in memory: among the arguments, of the call's own. Of no program. -/
namespace Go.Proofs.YtgefodpnhifmdaaGreat.Opt
open Go.ChangeShapes Go.WideShapes Go.ChangeAt Go.RowKit Go.Joins Go.Deep Go.Proofs.YtgefodpnhifmdaaGreat.Oct

abbrev Opt := UInt8 × ByteArray
/-- The options' cells. -/
def optV (o : Opt) : List Value := [.int .u8 o.1.toNat, .string o.2]
def optsV (l : List Opt) : List Value := l.flatMap optV
theorem optsV_nil : optsV [] = [] := rfl
theorem optsV_append (l m : List Opt) : optsV (l ++ m) = optsV l ++ optsV m := by unfold optsV; rw [List.flatMap_append]
theorem optsV_one (o : Opt) : optsV [o] = [.int .u8 o.1.toNat, .string o.2] := by simp [optsV, optV]
theorem optsV_length : ∀ l : List Opt, (optsV l).length = l.length * 2
  | [] => rfl
  | o :: l => by
    show (optV o ++ optsV l).length = _
    rw [List.length_append, optsV_length l, List.length_cons]
    simp [optV]; omega
theorem optsV_ones (l : List Opt) : ∀ u ∈ optsV l, u.oneCell' = true := by
  intro u hu
  obtain ⟨o, _, ho⟩ := List.mem_flatMap.1 hu
  simp [optV] at ho
  rcases ho with rfl | rfl <;> rfl
theorem optsV_at : ∀ (l : List Opt) (j : Nat) (h : j < l.length), (optsV l)[j * 2]? = some (.int .u8 l[j].1.toNat) ∧ (optsV l)[j * 2 + 1]? = some (.string l[j].2)
  | o :: l, 0, _ => ⟨rfl, rfl⟩
  | o :: l, j + 1, h => by
    have := optsV_at l j (by simpa using h)
    have e : optsV (o :: l) = .int .u8 o.1.toNat :: .string o.2 :: optsV l := rfl
    rw [e, show (j + 1) * 2 = j * 2 + 1 + 1 by omega]
    simpa using this

/-- The slice '.slice A n c' holds the options l, in blocks below B. -/
def Opts (w : World) (B : Nat) (A : Option Addr) (n : Nat) (l : List Opt) : Prop :=
  l.length = n ∧ (∀ o ∈ l, o.2.size ≤ 140737488351232) ∧ (0 < n → ∃ ad, A = some ad ∧ ad.block < B ∧ ∀ j (h : j < l.length), w.cell? (ad.add (j * 2)) = some (.int .u8 l[j].1.toNat) ∧ w.cell? ⟨(ad.add (j * 2)).block, (ad.add (j * 2)).off + 1, none⟩ = some (.string l[j].2))
theorem Opts.below {w w' : World} {B : Nat} {A : Option Addr} {n : Nat} {l : List Opt} (h : Opts w B A n l) (hb : Below B w w') : Opts w' B A n l :=
  ⟨h.1, h.2.1, fun hn => by
    obtain ⟨ad, e, hB, hc⟩ := h.2.2 hn
    exact ⟨ad, e, hB, fun j hj => ⟨(hb.cell (by rw [Oct.block_add]; exact hB)).trans (hc j hj).1, (hb.cell (by show (ad.add (j * 2)).block < B; rw [Oct.block_add]; exact hB)).trans (hc j hj).2⟩⟩⟩
theorem Opts.more {w : World} {B B' : Nat} {A : Option Addr} {n : Nat} {l : List Opt} (h : Opts w B A n l) (hb : B ≤ B') : Opts w B' A n l :=
  ⟨h.1, h.2.1, fun hn => by
    obtain ⟨ad, e, hB, hc⟩ := h.2.2 hn
    exact ⟨ad, e, by omega, hc⟩⟩
theorem Opts.callee {w w' : World} {B : Nat} {A : Option Addr} {n : Nat} {l : List Opt} (h : Opts w B A n l) (hb : Below w.heap.size w w') (hB : B ≤ w.heap.size) : Opts w' B A n l := h.below (hb.mono hB)
theorem Opts.at_ {w : World} {B : Nat} {A : Option Addr} {n k : Nat} {l : List Opt} (h : Opts w B A n l) (hk : k < n) :
    ∃ ad o, A = some ad ∧ ad.block < B ∧ l[k]? = some o ∧ o.2.size ≤ 140737488351232 ∧ w.cell? (ad.add (k * 2)) = some (.int .u8 o.1.toNat) ∧ w.cell? ⟨(ad.add (k * 2)).block, (ad.add (k * 2)).off + 1, none⟩ = some (.string o.2) := by
  obtain ⟨ad, e, hB, hc⟩ := h.2.2 (by omega)
  have hl : k < l.length := by rw [h.1]; exact hk
  exact ⟨ad, l[k], e, hB, List.getElem?_eq_getElem hl, h.2.1 _ (List.getElem_mem hl), hc k hl⟩
theorem Opts.next {w w' : World} {A : Option Addr} {n : Nat} {l : List Opt} (h : Opts w w.heap.size A n l) (hb : Below w.heap.size w w') : Opts w' w'.heap.size A n l := (h.below hb).more hb.size
theorem Opts.laid {w : World} {A : Option Addr} {n : Nat} {l : List Opt} (h : Opts w w.heap.size A n l) (o : Obj) : Opts (w.alloc o) (w.alloc o).heap.size A n l := h.next ((Below.refl _ w).alloc (Nat.le_refl _) o)
theorem opts_nil (w : World) (B : Nat) : Opts w B none 0 [] := ⟨rfl, (fun _ h => by cases h), (fun h => absurd h (Nat.lt_irrefl _))⟩
theorem opts_own {w : World} {base n : Nat} {e : TypeId} {v : Value} {l : List Opt} (h : w.ownsRow base e 2 v n (optsV l)) (hz : ∀ o ∈ l, o.2.size ≤ 140737488351232) :
    ∃ A c, v = .slice A n c ∧ Opts w w.heap.size A n l := by
  have hl : l.length = n := by have := h.1; rw [optsV_length] at this; omega
  rcases h.2 with ⟨rfl, rfl⟩ | ⟨g, cap, cur, rfl, hg, hh, _⟩
  · exact ⟨none, 0, rfl, hl, hz, fun h0 => absurd h0 (by omega)⟩
  · have hlt : g < w.heap.size := (Array.getElem?_eq_some_iff.1 hh).1
    refine ⟨some ⟨g, 0, none⟩, cap, rfl, hl, hz, fun _ => ⟨_, rfl, hlt, fun j hj => ?_⟩⟩
    have hv := optsV_at l j hj
    have c0 := h.cells (g := g) rfl (j * 2) _ hv.1
    have c1 := h.cells (g := g) rfl (j * 2 + 1) _ hv.2
    refine ⟨c0, ?_⟩
    rw [← add_add] at c1
    exact c1
/-- The cells, one by one. -/
theorem opts_cells {w : World} {B n : Nat} {ad : Addr} {l : List Opt} (h : Opts w B (some ad) n l) : ∀ j u, (optsV l)[j]? = some u → w.cell? (ad.add j) = some u := by
  intro j u hu
  have hj : j / 2 < l.length := by
    have := (List.getElem?_eq_some_iff.1 hu).1
    rw [optsV_length] at this
    omega
  obtain ⟨ad', e, _, hc⟩ := h.2.2 (by have := h.1; omega)
  cases e
  obtain ⟨c0, c1⟩ := hc _ hj
  obtain ⟨v0, v1⟩ := optsV_at l _ hj
  rcases Nat.mod_two_eq_zero_or_one j with hm | hm
  · rw [show j / 2 * 2 = j by omega] at v0 c0
    rw [c0]; rw [v0] at hu; exact hu
  · rw [show j / 2 * 2 + 1 = j by omega] at v1
    rw [v1] at hu
    rw [← hu, ← c1, show j = j / 2 * 2 + 1 by omega, ← add_add]
    rw [show (j / 2 * 2 + 1) / 2 * 2 = j / 2 * 2 by omega]
    rfl
theorem all_mem {H : Type} {P : Program} {e : TypeId} : ∀ {l : List (DataW H)} {d : DataW H}, d ∈ l → ∀ n ∈ d.weights P e, n ∈ DataW.weightsAll P e l
  | x :: l, d, hd, n, hn => by
    rw [DataW.weightsAll, List.mem_append]
    rcases List.mem_cons.1 hd with rfl | hd
    · exact .inl hn
    · exact .inr (all_mem hd n hn)
theorem take_one {l : List Value} {i : Nat} {v : Value} (h : l[i]? = some v) : (l.drop i).take 1 = [v] := by
  obtain ⟨hi, rfl⟩ := List.getElem?_eq_some_iff.1 h
  rw [List.drop_eq_getElem_cons hi]
  rfl
theorem u8_of {z : Int} (h0 : 0 ≤ z) (h : z ≤ 255) : ∃ c : UInt8, z = (c.toNat : Int) :=
  ⟨UInt8.ofNat z.toNat, by rw [UInt8.toNat_ofNat']; omega⟩
theorem opts_of {H : Type} {enc : TypeId × Value → H} {P : Program} {W : World} {base : Nat} {t e : TypeId} {f0 f1 : Field} {v : Value} {d : DataW H} {p : List MemPlace} (ht : P.underlying t = some (.slice e)) (he : P.underlying e = some (.struct #[f0, f1]))
    (hone : oneCellFields P #[f0, f1] = true) (hC : P.cellsOf e = 2) (u0 : P.underlying f0.type = some (.int .u8)) (u1 : P.underlying f1.type = some .string)
    (hv : Value.okWide P W .any base t v) (h : DataW.Trod enc P W 0 (fun _ => true) true t v d p) (hsz : ∀ n ∈ d.weights P t, n ≤ reachBytes) : ∃ A n c, v = .slice A n c ∧ n ≤ maxLen ∧ (A = none → c = 0) ∧ ∃ l, Opts W W.heap.size A n l := by
  obtain ⟨a0, len, cap, rfl⟩ := okWide_slice ht hv
  obtain ⟨fuel, hf⟩ := h
  rcases open_slice ht hf with ⟨hcs, hx⟩ | ⟨a, len', cap', m, n, D, Pl, hcs, _, hl, hm, hmm, hx, hi⟩
  · simp [Value.cells] at hcs
    obtain ⟨rfl, rfl, rfl⟩ := hcs
    exact ⟨none, 0, 0, rfl, by simp [maxLen], (fun _ => rfl), [], opts_nil _ _⟩
  · simp [Value.cells] at hcs
    obtain ⟨rfl, rfl, rfl⟩ := hcs
    refine ⟨some a, len, cap, rfl, by omega, (fun h => by cases h), ?_⟩
    have key1 : ∀ j, j < len → ∃ o : Opt, a.block < W.heap.size ∧ o.2.size ≤ 140737488351232 ∧ W.cell? (a.add (j * 2)) = some (.int .u8 o.1.toNat) ∧ W.cell? ((a.add (j * 2)).add 1) = some (.string o.2) := by
      intro j hj
      have hjm : j < m := by rw [hmm]; simp; omega
      obtain ⟨cs, hc, htr⟩ := hi j hjm
      rw [hC] at hc
      obtain ⟨_, hcl, hat⟩ := World.cells?_some hc
      obtain ⟨xs, n', _, hD, _, hxl, hg⟩ := DataW.trod_struct he htr
      have key : ∀ (i : Nat) (f : Field), (#[f0, f1] : Array Field)[i]? = some f → i < 2 → ∃ u y, cs[i]? = some u ∧ xs[i]? = some y ∧ DataW.trod enc P W 0 (fun _ => true) true n' f.type [u] = some y ∧ W.cell? ((a.add (j * 2)).add i) = some u := by
        intro i f hfi hi5
        obtain ⟨ho, hk⟩ := hone_of hone i f hfi
        have hu : cs[i]? = some (cs[i]'(by omega)) := List.getElem?_eq_getElem (by omega)
        have hy : xs[i]? = some (xs[i]'(by simp at hxl; omega)) := List.getElem?_eq_getElem (by simp at hxl; omega)
        have h1 := hg i f hfi
        rw [ho, hk, take_one hu] at h1
        exact ⟨_, _, hu, hy, h1.trans hy, (hat i hi5).trans hu⟩
      obtain ⟨v0, y0, _, e0, t0, k0⟩ := key 0 f0 rfl (by omega)
      obtain ⟨v1, y1, _, e1, t1, k1⟩ := key 1 f1 rfl (by omega)
      obtain ⟨z, q0, _, w0⟩ := DataW.trod_int u0 t0
      obtain ⟨S, q1, r1, _⟩ := DataW.trod_string u1 t1
      have b0 := bounds_u8 w0
      obtain ⟨c, rfl⟩ := u8_of (z := z) (by omega) (by omega)
      cases q0; cases q1
      have hblk : a.block < W.heap.size := by
        have := World.block_lt_of_cell? W _ k0
        rwa [Oct.block_add, Oct.block_add] at this
      refine ⟨(c, S), hblk, ?_, by rw [add_add] at k0; exact k0, k1⟩
      have hd : d = .slice ((List.range len).map D) ((List.range (m - len)).map fun j => D (len + j)) := congrArg Prod.fst hx
      have hmem : D j ∈ (List.range len).map D := List.mem_map.2 ⟨j, List.mem_range.2 hj, rfl⟩
      have hDj : D j = .agg (xs.map (·.1)) := congrArg Prod.fst hD
      have hw : S.data.toList.length ∈ (D j).weights P e := by
        rw [hDj]
        unfold DataW.weights
        rw [he]
        refine DataW.weights_mem_each (j := 1) (t := f1.type) rfl (d := .lit (.string S.data.toList)) ?_ _ ?_
        · rw [List.getElem?_map, e1, r1]; rfl
        · unfold DataW.weights; simp
      have h2 := hsz _ (by
        rw [hd]
        unfold DataW.weights
        rw [ht]
        exact List.mem_cons.2 (.inr (List.mem_append.2 (.inl (all_mem hmem _ hw)))))
      rw [Array.length_toList] at h2
      exact h2
    obtain ⟨f, hf⟩ := choose_lt (α := Opt) key1
    refine ⟨(List.range len).map f, by simp, fun o ho => ?_, fun h0 => ⟨a, rfl, (hf 0 h0).1, fun j hj => ?_⟩⟩
    · obtain ⟨j, hj, rfl⟩ := List.mem_map.1 ho
      exact (hf j (List.mem_range.1 hj)).2.1
    · have hj' : j < len := by simpa using hj
      have := (hf j hj').2.2
      simp only [List.getElem_map, List.getElem_range]
      exact this
end Go.Proofs.YtgefodpnhifmdaaGreat.Opt

/- Options as lists: their bytes, what bytes are, item by item. Plain mathematics, of no program. -/
namespace Go.Proofs.YtgefodpnhifmdaaGreat.Opt
open Go.Proofs.YtgefodpnhifmdaaGreat.Oct

def encO (o : Opt) : List UInt8 := o.1 :: UInt8.ofNat (2 + o.2.size) :: o.2.toList
def enc (l : List Opt) : List UInt8 := l.flatMap encO
def big (l : List Opt) : Bool := l.any fun o => decide (253 < o.2.size)
def wt : List Opt → Nat
  | [] => 0
  | o :: l => (2 + o.2.size) + wt l
def pE (l : List Opt) : Nat := if 64 < l.length then 4 else if big l = true then 2 else if 1496 < wt l then 5 else 0
def pA (l : List Opt) : List UInt8 := if pE l = 0 then enc l else []

theorem enc_nil : enc [] = [] := rfl
theorem enc_cons (o : Opt) (l : List Opt) : enc (o :: l) = encO o ++ enc l := rfl
theorem enc_append (l m : List Opt) : enc (l ++ m) = enc l ++ enc m := by unfold enc; rw [List.flatMap_append]
theorem encO_length (o : Opt) : (encO o).length = 2 + o.2.size := by unfold encO; rw [List.length_cons, List.length_cons, ← size_toList]; omega
theorem enc_length : ∀ l : List Opt, (enc l).length = wt l
  | [] => rfl
  | o :: l => by rw [enc_cons, List.length_append, encO_length, enc_length l, wt]
theorem wt_append : ∀ l m : List Opt, wt (l ++ m) = wt l + wt m
  | [], m => by simp [wt]
  | o :: l, m => by rw [List.cons_append, wt, wt, wt_append l m]; omega
theorem big_append (l m : List Opt) : big (l ++ m) = (big l || big m) := List.any_append
theorem big_false {l : List Opt} : big l = false ↔ ∀ o ∈ l, o.2.size ≤ 253 := by
  unfold big
  rw [List.any_eq_false]
  constructor
  · intro h o ho; have := h o ho; simp only [decide_eq_true_eq] at this; omega
  · intro h o ho; have := h o ho; simp only [decide_eq_true_eq]; omega
theorem wt_le : ∀ {l : List Opt}, big l = false → wt l ≤ 255 * l.length
  | [], _ => by simp [wt]
  | o :: l, h => by
    have h' := big_false.1 h
    have h1 := h' o (by simp)
    have h2 := wt_le (l := l) (big_false.2 fun x hx => h' x (by simp [hx]))
    rw [wt, List.length_cons]; omega
theorem take_wt (l : List Opt) (k : Nat) (h : k < l.length) : wt (l.take (k + 1)) = wt (l.take k) + (2 + l[k].2.size) := by
  rw [List.take_succ_eq_append_getElem h, wt_append]; rfl
theorem take_enc (l : List Opt) (k : Nat) (h : k < l.length) : enc (l.take (k + 1)) = enc (l.take k) ++ encO l[k] := by
  rw [List.take_succ_eq_append_getElem h, enc_append]; simp [enc]
theorem take_big (l : List Opt) (k : Nat) (h : k < l.length) : big (l.take (k + 1)) = (big (l.take k) || decide (253 < l[k].2.size)) := by
  rw [List.take_succ_eq_append_getElem h, big_append]; simp [big]
theorem big_of_take {l : List Opt} {k : Nat} (h : big (l.take k) = true) : big l = true := by
  have := big_append (l.take k) (l.drop k)
  rw [List.take_append_drop] at this
  rw [this, h]; rfl
theorem pE_zero {l : List Opt} : pE l = 0 ↔ l.length ≤ 64 ∧ big l = false ∧ wt l ≤ 1496 := by
  unfold pE
  constructor
  · intro h
    split at h
    · cases h
    · split at h
      · cases h
      · split at h
        · cases h
        · rename_i h1 h2 h3; exact ⟨by omega, by simpa using h2, by omega⟩
  · rintro ⟨h1, h2, h3⟩
    rw [if_neg (by omega), if_neg (by rw [h2]; decide), if_neg (by omega)]
theorem pA_yes {l : List Opt} (h : pE l = 0) : pA l = enc l := if_pos h
theorem pA_no {l : List Opt} (h : pE l ≠ 0) : pA l = [] := if_neg h
theorem pA_le (l : List Opt) : (pA l).length ≤ 1496 := by
  by_cases h : pE l = 0
  · rw [pA_yes h, enc_length]; exact (pE_zero.1 h).2.2
  · rw [pA_no h]; simp
theorem pE_join (l m : List Opt) (h : pE l ≠ 0 ∨ pE m ≠ 0) : pE (l ++ m) ≠ 0 := by
  intro e
  obtain ⟨h1, h2, h3⟩ := pE_zero.1 e
  rw [List.length_append] at h1
  rw [big_append, Bool.or_eq_false_iff] at h2
  rw [wt_append] at h3
  rcases h with h | h
  · exact h (pE_zero.2 ⟨by omega, h2.1, by omega⟩)
  · exact h (pE_zero.2 ⟨by omega, h2.2, by omega⟩)
theorem pE_full (l m : List Opt) (h : 64 < l.length + m.length) : pE (l ++ m) = 4 := by
  unfold pE
  rw [if_pos (by rw [List.length_append]; exact h)]
theorem pE_long (l m : List Opt) (hl : pE l = 0) (hm : pE m = 0) (h : l.length + m.length ≤ 64) (hw : 1496 < wt l + wt m) : pE (l ++ m) = 5 := by
  unfold pE
  rw [if_neg (by rw [List.length_append]; omega), if_neg (by rw [big_append, (pE_zero.1 hl).2.1, (pE_zero.1 hm).2.1]; decide), if_pos (by rw [wt_append]; exact hw)]
theorem pE_both (l m : List Opt) (hl : pE l = 0) (hm : pE m = 0) (h : l.length + m.length ≤ 64) (hw : wt l + wt m ≤ 1496) : pE (l ++ m) = 0 ∧ pA (l ++ m) = pA l ++ pA m := by
  have e : pE (l ++ m) = 0 := pE_zero.2 ⟨by rw [List.length_append]; exact h, by rw [big_append, (pE_zero.1 hl).2.1, (pE_zero.1 hm).2.1]; rfl, by rw [wt_append]; exact hw⟩
  exact ⟨e, by rw [pA_yes e, pA_yes hl, pA_yes hm, enc_append]⟩

/-- What stands at the head of bytes: an option, or what is wrong. -/
def rd (s : List UInt8) : Opt × Nat :=
  if s.length < 2 then ((0, ByteArray.empty), 6)
  else if (s.getD 1 0).toNat < 2 then ((0, ByteArray.empty), 7)
  else if s.length < (s.getD 1 0).toNat then ((0, ByteArray.empty), 6)
  else ((s.getD 0 0, bOf ((s.drop 2).take ((s.getD 1 0).toNat - 2))), 0)
abbrev Item := Nat × Opt × Nat
/-- The options of bytes, each with its place; the first one that is wrong is the last. -/
def seq (s : List UInt8) (p : Nat) : List Item :=
  if h : s = [] then [] else
    (p, (rd s).1, (rd s).2) :: if (rd s).2 = 0 then seq (s.drop (2 + (rd s).1.2.size)) (p + (2 + (rd s).1.2.size)) else []
termination_by s.length
decreasing_by
  have : 0 < s.length := List.length_pos_iff.2 h
  rw [List.length_drop]; omega
/-- What becomes of items, those of l having come. -/
def fi (N : Nat) : List Opt → List Item → List Opt × Nat × Nat
  | l, [] => (l, N, 0)
  | l, x :: r => if l.length = 64 then ([], x.1, 4) else if x.2.2 ≠ 0 then ([], x.1, x.2.2) else fi N (l ++ [x.2.1]) r
def got (s : List UInt8) : List Opt × Nat × Nat := if 1496 < s.length then ([], 0, 5) else fi s.length [] (seq s 0)
def gL (s : List UInt8) : List Opt := (got s).1
def gN (s : List UInt8) : Nat := (got s).2.1
def gE (s : List UInt8) : Nat := (got s).2.2

theorem seq_nil (p : Nat) : seq [] p = [] := by rw [seq, dif_pos rfl]
theorem seq_bad {s : List UInt8} (h : s ≠ []) (hb : (rd s).2 ≠ 0) (p : Nat) : seq s p = [(p, (rd s).1, (rd s).2)] := by rw [seq, dif_neg h, if_neg hb]
theorem seq_good {s : List UInt8} (h : s ≠ []) (hb : (rd s).2 = 0) (p : Nat) : seq s p = (p, (rd s).1, 0) :: seq (s.drop (2 + (rd s).1.2.size)) (p + (2 + (rd s).1.2.size)) := by rw [seq, dif_neg h, if_pos hb, hb]
theorem rd_cases (s : List UInt8) : (s.length < 2 ∧ rd s = ((0, ByteArray.empty), 6)) ∨ (2 ≤ s.length ∧ (s.getD 1 0).toNat < 2 ∧ rd s = ((0, ByteArray.empty), 7)) ∨ (2 ≤ s.length ∧ 2 ≤ (s.getD 1 0).toNat ∧ s.length < (s.getD 1 0).toNat ∧ rd s = ((0, ByteArray.empty), 6)) ∨
    (2 ≤ s.length ∧ 2 ≤ (s.getD 1 0).toNat ∧ (s.getD 1 0).toNat ≤ s.length ∧ rd s = ((s.getD 0 0, bOf ((s.drop 2).take ((s.getD 1 0).toNat - 2))), 0) ∧ 2 + (rd s).1.2.size = (s.getD 1 0).toNat) := by
  unfold rd
  by_cases h1 : s.length < 2
  · left; exact ⟨h1, if_pos h1⟩
  · by_cases h2 : (s.getD 1 0).toNat < 2
    · right; left; exact ⟨by omega, h2, by rw [if_neg h1, if_pos h2]⟩
    · by_cases h3 : s.length < (s.getD 1 0).toNat
      · right; right; left; exact ⟨by omega, by omega, h3, by rw [if_neg h1, if_neg h2, if_pos h3]⟩
      · right; right; right
        refine ⟨by omega, by omega, by omega, by rw [if_neg h1, if_neg h2, if_neg h3], ?_⟩
        rw [if_neg h1, if_neg h2, if_neg h3]
        simp only [size_bOf, List.length_take, List.length_drop]
        omega
/-- A good head is its option's bytes. -/
theorem rd_good {s : List UInt8} (h : (rd s).2 = 0) : s = encO (rd s).1 ++ s.drop (2 + (rd s).1.2.size) ∧ (rd s).1.2.size ≤ 253 ∧ 2 + (rd s).1.2.size ≤ s.length := by
  rcases rd_cases s with ⟨_, e⟩ | ⟨_, _, e⟩ | ⟨_, _, _, e⟩ | ⟨h1, h2, h3, e, hz⟩
  · rw [e] at h; cases h
  · rw [e] at h; cases h
  · rw [e] at h; cases h
  · match s, h1 with
    | a :: b :: d, _ =>
      simp only [List.getD_cons_zero, List.getD_cons_succ, List.length_cons] at h2 h3 e hz
      have hb := b.toNat_lt
      refine ⟨?_, by omega, by simp only [List.length_cons]; omega⟩
      rw [hz]
      unfold encO
      rw [hz, e]
      simp only [toList_bOf, List.drop_succ_cons, List.drop_zero, UInt8.ofNat_toNat, List.cons_append]
      congr 2
      have : (a :: b :: d).drop b.toNat = d.drop (b.toNat - 2) := by
        conv => lhs; rw [show b.toNat = (b.toNat - 2) + 1 + 1 by omega, List.drop_succ_cons, List.drop_succ_cons]
      rw [this, List.take_append_drop]
theorem rd_enc (o : Opt) (r : List UInt8) (h : o.2.size ≤ 253) : rd (encO o ++ r) = (o, 0) := by
  have e : (UInt8.ofNat (2 + o.2.size)).toNat = 2 + o.2.size := by rw [UInt8.toNat_ofNat']; omega
  unfold encO rd
  simp only [List.cons_append, List.length_cons, List.length_append, List.getD_cons_zero, List.getD_cons_succ, e, List.drop_succ_cons, List.drop_zero]
  rw [← size_toList, if_neg (by omega), if_neg (by omega), if_neg (by omega)]
  rw [show 2 + o.2.size - 2 = o.2.toList.length by rw [← size_toList]; omega, List.take_left, bOf_toList]
theorem seq_enc (o : Opt) (r : List UInt8) (p : Nat) (h : o.2.size ≤ 253) : seq (encO o ++ r) p = (p, o, 0) :: seq r (p + (2 + o.2.size)) := by
  have hr := rd_enc o r h
  rw [seq_good (by unfold encO; simp) (by rw [hr]), hr]
  simp only
  rw [List.drop_left' (encO_length o)]
theorem fi_enc (N : Nat) : ∀ (m l : List Opt) (p : Nat), l.length + m.length ≤ 64 → (∀ o ∈ m, o.2.size ≤ 253) → fi N l (seq (enc m) p) = (l ++ m, N, 0)
  | [], l, p, _, _ => by rw [enc_nil, seq_nil, fi, List.append_nil]
  | o :: m, l, p, h, hm => by
    rw [List.length_cons] at h
    rw [enc_cons, seq_enc o _ p (hm o (by simp)), fi, if_neg (by omega), if_neg (by simp), fi_enc N m (l ++ [o]) _ (by rw [List.length_append]; simp; omega) (fun x hx => hm x (by simp [hx]))]
    simp
/-- What was put is got. -/
theorem got_enc {l : List Opt} (h : pE l = 0) : got (pA l) = (l, (pA l).length, 0) := by
  obtain ⟨h1, h2, h3⟩ := pE_zero.1 h
  have hl := pA_le l
  unfold got
  rw [if_neg (by omega)]
  conv => lhs; rw [pA_yes h]
  rw [fi_enc _ l [] 0 (by simpa using h1) (big_false.1 h2), pA_yes h]; rfl
theorem fi_some (N : Nat) : ∀ (n : Nat) (s : List UInt8) (l : List Opt) (p : Nat), s.length ≤ n → l.length ≤ 64 → (fi N l (seq s p)).2.2 = 0 → ∃ m, fi N l (seq s p) = (l ++ m, N, 0) ∧ enc m = s ∧ l.length + m.length ≤ 64 ∧ ∀ o ∈ m, o.2.size ≤ 253
  | n, [], l, p, _, hl, _ => ⟨[], by rw [seq_nil, fi, List.append_nil], rfl, by simpa using hl, fun _ h => by cases h⟩
  | 0, a :: s, l, p, hn, _, _ => by simp at hn
  | n + 1, a :: s, l, p, hn, hl, h => by
    by_cases hb : (rd (a :: s)).2 = 0
    · have hg := rd_good hb
      rw [seq_good (by simp) hb] at h ⊢
      generalize ho : (rd (a :: s)).1 = o at *
      generalize hr : (a :: s).drop (2 + o.2.size) = r at *
      have hrl : r.length + (2 + o.2.size) = s.length + 1 := by rw [← hr, List.length_drop, List.length_cons]; have := hg.2.2; rw [List.length_cons] at this; omega
      rw [List.length_cons] at hn
      rw [fi] at h ⊢
      by_cases h64 : l.length = 64
      · rw [if_pos h64] at h; cases h
      · rw [if_neg h64, if_neg (by simp)] at h ⊢
        obtain ⟨m, e1, e2, e3, e4⟩ := fi_some N n r (l ++ [o]) _ (by omega) (by rw [List.length_append]; simp; omega) h
        refine ⟨o :: m, by rw [e1]; simp, by rw [enc_cons, e2]; exact hg.1.symm, by simp only [List.length_append, List.length_cons, List.length_nil] at e3 ⊢; omega, ?_⟩
        intro x hx
        rcases List.mem_cons.1 hx with rfl | hx
        · exact hg.2.1
        · exact e4 x hx
    · rw [seq_bad (by simp) hb, fi] at h
      split at h
      · cases h
      · exact absurd h hb
/-- What is got is put as it stood. -/
theorem enc_got {s : List UInt8} (h : gE s = 0) : got s = (gL s, s.length, 0) ∧ pE (gL s) = 0 ∧ pA (gL s) = s := by
  unfold gE gL got at *
  by_cases hs : 1496 < s.length
  · rw [if_pos hs] at h; cases h
  · rw [if_neg hs] at h ⊢
    obtain ⟨m, e1, e2, e3, e4⟩ := fi_some s.length s.length s [] 0 (Nat.le_refl _) (by simp) h
    rw [List.nil_append] at e1
    rw [e1]
    have hp : pE m = 0 := pE_zero.2 ⟨by simpa using e3, big_false.2 e4, by rw [← enc_length, e2]; omega⟩
    exact ⟨rfl, hp, by rw [pA_yes hp]; exact e2⟩
theorem fi_no (N : Nat) : ∀ (n : Nat) (s : List UInt8) (l : List Opt) (p : Nat), s.length ≤ n → p + s.length ≤ N → (fi N l (seq s p)).2.2 ≠ 0 → (fi N l (seq s p)).1 = [] ∧ (fi N l (seq s p)).2.1 ≤ N
  | n, [], l, p, _, _, h => by rw [seq_nil, fi] at h; exact absurd rfl h
  | 0, a :: s, l, p, hn, _, _ => by simp at hn
  | n + 1, a :: s, l, p, hn, hN, h => by
    rw [List.length_cons] at hn hN
    by_cases hb : (rd (a :: s)).2 = 0
    · have hg := rd_good hb
      rw [seq_good (by simp) hb, fi] at h ⊢
      by_cases h64 : l.length = 64
      · rw [if_pos h64]; exact ⟨rfl, by simp only; omega⟩
      · rw [if_neg h64, if_neg (by simp)] at h ⊢
        refine fi_no N n _ _ _ ?_ ?_ h
        · rw [List.length_drop, List.length_cons]; omega
        · have := hg.2.2; rw [List.length_cons] at this; rw [List.length_drop, List.length_cons]; omega
    · rw [seq_bad (by simp) hb, fi] at h ⊢
      split
      · exact ⟨rfl, by simp only; omega⟩
      · exact ⟨rfl, by simp only; omega⟩
theorem got_no {s : List UInt8} (h : gE s ≠ 0) : gL s = [] ∧ gN s ≤ s.length := by
  unfold gE gL gN got at *
  by_cases hs : 1496 < s.length
  · rw [if_pos hs]; exact ⟨rfl, Nat.zero_le _⟩
  · rw [if_neg hs] at h ⊢
    exact fi_no s.length s.length s [] 0 (Nat.le_refl _) (by omega) h
theorem gL_le (s : List UInt8) : (gL s).length ≤ 64 := by
  by_cases h : gE s = 0
  · exact (pE_zero.1 (enc_got h).2.1).1
  · rw [(got_no h).1]; simp
theorem gL_size (s : List UInt8) : ∀ o ∈ gL s, o.2.size ≤ 253 := by
  by_cases h : gE s = 0
  · exact big_false.1 (pE_zero.1 (enc_got h).2.1).2.1
  · rw [(got_no h).1]; intro o ho; cases ho
theorem gN_le (s : List UInt8) : gN s ≤ s.length := by
  by_cases h : gE s = 0
  · unfold gN; rw [(enc_got h).1]; exact Nat.le_refl _
  · exact (got_no h).2
theorem gE_le (s : List UInt8) : gE s ≤ 7 := by
  have rdle : ∀ t : List UInt8, (rd t).2 ≤ 7 := by
    intro t
    rcases rd_cases t with ⟨_, e⟩ | ⟨_, _, e⟩ | ⟨_, _, _, e⟩ | ⟨_, _, _, e, _⟩ <;> rw [e] <;> simp only <;> omega
  have key : ∀ (N n : Nat) (s : List UInt8) (l : List Opt) (p : Nat), s.length ≤ n → (fi N l (seq s p)).2.2 ≤ 7 := by
    intro N n
    induction n with
    | zero =>
      intro s l p hn
      have : s = [] := List.eq_nil_of_length_eq_zero (by omega)
      subst this; rw [seq_nil, fi]; exact Nat.zero_le _
    | succ n ih =>
      intro s l p hn
      cases s with
      | nil => rw [seq_nil, fi]; exact Nat.zero_le _
      | cons a s =>
        rw [List.length_cons] at hn
        by_cases hb : (rd (a :: s)).2 = 0
        · rw [seq_good (by simp) hb, fi]
          by_cases h64 : l.length = 64
          · rw [if_pos h64]; simp only; omega
          · rw [if_neg h64, if_neg (by simp)]
            exact ih _ _ _ (by rw [List.length_drop, List.length_cons]; omega)
        · rw [seq_bad (by simp) hb, fi]
          split
          · simp only; omega
          · exact rdle _
  unfold gE got
  split
  · decide
  · exact key _ _ _ _ _ (Nat.le_refl _)

/-- Items that have come and are right. -/
def okI (pre : List Item) : Prop := ∀ x ∈ pre, x.2.2 = 0
def optsI (pre : List Item) : List Opt := pre.map fun x => x.2.1
theorem fi_pre (N : Nat) : ∀ (pre rest : List Item) (l : List Opt), okI pre → l.length + pre.length ≤ 64 → fi N l (pre ++ rest) = fi N (l ++ optsI pre) rest
  | [], rest, l, _, _ => by simp [optsI]
  | x :: pre, rest, l, h, hl => by
    rw [List.length_cons] at hl
    rw [List.cons_append, fi, if_neg (by omega), if_neg (by simp [h x (by simp)]), fi_pre N pre rest _ (fun y hy => h y (by simp [hy])) (by rw [List.length_append]; simp; omega)]
    simp [optsI]
theorem optsI_snoc (pre : List Item) (x : Item) : optsI (pre ++ [x]) = optsI pre ++ [x.2.1] := by simp [optsI]
theorem okI_snoc {pre : List Item} {x : Item} (h : okI pre) (hx : x.2.2 = 0) : okI (pre ++ [x]) := by
  intro y hy
  rcases List.mem_append.1 hy with hy | hy
  · exact h y hy
  · rw [List.mem_singleton] at hy; subst hy; exact hx
/-- All items have come. -/
theorem got_done {s : List UInt8} (hs : s.length ≤ 1496) (h : okI (seq s 0)) (hl : (seq s 0).length ≤ 64) : got s = (optsI (seq s 0), s.length, 0) := by
  unfold got
  rw [if_neg (by omega)]
  have := fi_pre s.length (seq s 0) [] [] h (by simpa using hl)
  rw [List.append_nil, List.nil_append] at this
  rw [this, fi]
/-- An item that stops. -/
theorem got_stop {s : List UInt8} (hs : s.length ≤ 1496) {pre : List Item} {x : Item} (hp : pre ++ [x] <+: seq s 0) (h : okI pre) (hl : pre.length ≤ 64) (hx : pre.length = 64 ∨ x.2.2 ≠ 0) : got s = ([], x.1, if pre.length = 64 then 4 else x.2.2) := by
  obtain ⟨r, hr⟩ := hp
  unfold got
  rw [if_neg (by omega), ← hr, List.append_assoc, fi_pre s.length pre _ [] h (by simpa using hl), List.nil_append]
  have hlen : (optsI pre).length = pre.length := by simp [optsI]
  rw [List.singleton_append, fi, hlen]
  by_cases h64 : pre.length = 64
  · rw [if_pos h64, if_pos h64]
  · rw [if_neg h64, if_neg h64]
    rcases hx with hx | hx
    · exact absurd hx h64
    · rw [if_pos hx]
/-- The first option of a type; the options of others. -/
def fd (t : UInt8) (l : List Opt) : Option Opt := l.find? fun o => o.1 == t
def fA (t : UInt8) (l : List Opt) : Opt := (fd t l).getD (0, ByteArray.empty)
def fB (t : UInt8) (l : List Opt) : Bool := (fd t l).isSome
def wo (t : UInt8) (l : List Opt) : List Opt := l.filter fun o => !(o.1 == t)
theorem wo_snoc (t : UInt8) (l : List Opt) (k : Nat) (h : k < l.length) : wo t (l.take (k + 1)) = wo t (l.take k) ++ (if l[k].1 == t then [] else [l[k]]) := by
  rw [List.take_succ_eq_append_getElem h]
  unfold wo
  rw [List.filter_append]
  congr 1
  by_cases e : (l[k].1 == t) = true
  · rw [if_pos e]; simp [e]
  · rw [if_neg e]; simp at e; simp [e]
theorem wo_le (t : UInt8) (l : List Opt) : (wo t l).length ≤ l.length := List.length_filter_le _ _
end Go.Proofs.YtgefodpnhifmdaaGreat.Opt

/- An option in a block; a named result that is a struct, and one more. -/
namespace Go.Proofs.YtgefodpnhifmdaaGreat.Opt
open Go.RowKit Go.Proofs.YtgefodpnhifmdaaGreat.Oct Go.Proofs.YtgefodpnhifmdaaGreat.Row Go.Proofs.YtgefodpnhifmdaaGreat.Mem

set_option maxRecDepth 100000 in
theorem Tryz.info157 : (Tryz.prog.info? 157).map (fun i => (i.zero, i.size, i.bytes)) = some (some (.agg #[.int .u8 0, .string ByteArray.empty]), 2, 24) := by kernel_rfl

/-- An option lies in block g. -/
def At (W : World) (g : Nat) (o : Opt) : Prop := Blk W g [.int .u8 o.1.toNat, .string o.2] 157
theorem At.callee {W W' : World} {g : Nat} {o : Opt} (h : At W g o) (hb : Below W.heap.size W W') : At W' g o := Blk.callee h hb
theorem At.below {W W' : World} {g n : Nat} {o : Opt} (h : At W g o) (hb : Below n W W') (hg : g < n) : At W' g o := Blk.below h hb hg
theorem At.alloc {W : World} {g : Nat} {o : Opt} (h : At W g o) (x : Obj) : At (W.alloc x) g o := Blk.alloc h x
theorem at_new (w : World) (t : UInt8) (d : ByteArray) : At (w.alloc (.cells #[.int .u8 t.toNat, .string d] 157)) w.heap.size (t, d) := blk_new w [.int .u8 t.toNat, .string d] _
theorem At.c0 {W : World} {g : Nat} {o : Opt} (h : At W g o) : W.cell? ⟨g, 0, none⟩ = some (.int .u8 o.1.toNat) := Blk.at_ h 0
theorem At.c1 {W : World} {g : Nat} {o : Opt} (h : At W g o) : W.cell? ⟨g, 1, none⟩ = some (.string o.2) := Blk.at_ h 1
theorem At.set {W : World} {g : Nat} {o : Opt} (h : At W g o) (o' : Opt) : At ((W.setCell ⟨g, 0, none⟩ (.int .u8 o'.1.toNat)).setCell ⟨g, 1, none⟩ (.string o'.2)) g o' := (Blk.set h 0 (.int .u8 o'.1.toNat)).set 1 (.string o'.2)
/-- A named result that is a struct in a block of its own, and one more. -/
theorem results_row1 {P : Program} {fn : Func} {p t : Tmp} {ty : TypeId} (h : fn.results = #[.cell p ty, .tmp t]) (tmps : Array Value) (w : World) (g : Nat) (cs : List Value) (tb : TypeId) (d : TypeDesc)
    (hp : tmps.getD p undef = .pointer (some ⟨g, 0, none⟩)) (hg : Blk w g cs tb) (hu : P.underlying ty = some d) (hd : (match d with | .struct _ | .array _ _ => true | _ => false) = true) (hi : (P.info? ty).map (·.size) = some cs.toArray.size) :
    (results fn tmps).run P w = .ok (.tuple #[.agg cs.toArray, tmps.getD t undef]) w := by
  have hp' : tmps[p]?.getD undef = .pointer (some ⟨g, 0, none⟩) := by simpa using hp
  simp only [List.size_toArray] at hi
  simp [results, h, hp', asAddr, run_loadVar_row w g tb ty cs.toArray (0, 0) d hg hu hd (by simpa using hi)]

end Go.Proofs.YtgefodpnhifmdaaGreat.Opt

/- What IPCP's options say: plain mathematics of options and of the struct they fill; of no program. -/
namespace Go.Proofs.YtgefodpnhifmdaaGreat.Ipc
open Go.Proofs.YtgefodpnhifmdaaGreat.Oct Go.Proofs.YtgefodpnhifmdaaGreat.Opt

/-- The six fields. -/
structure Ipc where
  ha : Bool
  addr : UInt32
  h1 : Bool
  dns1 : UInt32
  h2 : Bool
  dns2 : UInt32
deriving DecidableEq
def lz : Ipc := ⟨false, 0, false, 0, false, 0⟩
/-- The fields' cells. -/
def lv (x : Ipc) : List Value := [.bool x.ha, .int .u32 x.addr.toNat, .bool x.h1, .int .u32 x.dns1.toNat, .bool x.h2, .int .u32 x.dns2.toNat]

def known (t : UInt8) : Bool := t == 3 || t == 129 || t == 131
def good (o : Opt) : Bool := known o.1 && decide (o.2.size = 4)
def has (t : UInt8) (x : Ipc) : Bool := if t = 3 then x.ha else if t = 129 then x.h1 else x.h2
def adr (t : UInt8) (x : Ipc) : UInt32 := if t = 3 then x.addr else if t = 129 then x.dns1 else x.dns2
def dat (t : UInt8) (x : Ipc) : ByteArray := bOf (numS (adr t x).toNat 4)
def set (t : UInt8) (x : Ipc) (v : UInt32) : Ipc := if t = 3 then { x with ha := true, addr := v } else if t = 129 then { x with h1 := true, dns1 := v } else { x with h2 := true, dns2 := v }
/-- What a valid one says. -/
def say (x : Ipc) (o : Opt) : Ipc := set o.1 x (UInt32.ofNat (val o.2.toList))
/-- Whether it may be put. -/
def may (x : Ipc) : Bool := (x.ha || x.addr == 0) && (x.h1 || x.dns1 == 0) && (x.h2 || x.dns2 == 0)
def six : List UInt8 := [3, 129, 131]
def put (x : Ipc) : List Opt := six.filterMap fun t => if has t x then some (t, dat t x) else none
/-- One option more. -/
def step (a : Option (Ipc × List Opt)) (o : Opt) : Option (Ipc × List Opt) :=
  match a with
  | none => none
  | some (x, odd) => if good o then (if has o.1 x then none else some (say x o, odd)) else some (x, odd ++ [o])
def st (l : List Opt) : Option (Ipc × List Opt) := l.foldl step (some (lz, []))
def gL (l : List Opt) : Ipc := match st l with | some (x, _) => x | none => lz
def gO (l : List Opt) : List Opt := match st l with | some (_, o) => o | none => []
def gE (l : List Opt) : Nat := match st l with | some _ => 0 | none => 9
theorem st_nil : st [] = some (lz, []) := rfl
theorem st_snoc (l : List Opt) (o : Opt) : st (l ++ [o]) = step (st l) o := by unfold st; rw [List.foldl_append]; rfl
theorem foldl_none : ∀ l : List Opt, l.foldl step none = none
  | [] => rfl
  | _ :: l => foldl_none l
theorem st_cut {l : List Opt} {k : Nat} (h : st (l.take k) = none) : st l = none := by
  unfold st at h ⊢
  conv => lhs; rw [← List.take_append_drop k l]
  rw [List.foldl_append, h, foldl_none]

/-! ### known, good -/
theorem known_iff {t : UInt8} : known t = true ↔ t ∈ six := by unfold known six; simp [or_assoc]
theorem known_cases {t : UInt8} (h : known t = true) : t = 3 ∨ t = 129 ∨ t = 131 := by unfold known at h; simp [or_assoc] at h; exact h
theorem good_known {o : Opt} (h : good o = true) : known o.1 = true := by
  unfold good at h
  exact (Bool.and_eq_true_iff.1 h).1
theorem good_size {o : Opt} (h : good o = true) : o.2.size = 4 := by
  unfold good at h
  exact of_decide_eq_true (Bool.and_eq_true_iff.1 h).2
theorem good_of {o : Opt} (h : known o.1 = true) (h2 : o.2.size = 4) : good o = true := by
  unfold good
  rw [h, decide_eq_true h2]
  rfl
theorem bOf_inj {a b : List UInt8} (h : bOf a = bOf b) : a = b := by rw [← toList_bOf a, h, toList_bOf]
theorem u32_val {s : ByteArray} (h : s.size = 4) : (UInt32.ofNat (val s.toList)).toNat = val s.toList := by
  have := val_lt s.toList
  rw [← size_toList, h] at this
  rw [UInt32.toNat_ofNat']; omega
theorem numS_of {s : ByteArray} {n : Nat} (h : s.size = n) : bOf (numS (val s.toList) n) = s := by
  rw [← h, size_toList, numS_val, bOf_toList]
theorem numS_u32 (v : UInt32) : UInt32.ofNat (val (bOf (numS v.toNat 4)).toList) = v := by
  rw [toList_bOf, val_numS]
  have := v.toNat_lt
  rw [Nat.mod_eq_of_lt (by omega), UInt32.ofNat_toNat]

/-! ### what is said, and put -/
theorem dat_say {x : Ipc} {t : UInt8} {d : ByteArray} (h : good (t, d) = true) : dat t (say x (t, d)) = d ∧ has t (say x (t, d)) = true := by
  have hs : d.size = 4 := good_size h
  rcases known_cases (good_known h) with e | e | e <;> (simp only at e; subst e)
  all_goals exact ⟨by show bOf (numS (UInt32.ofNat (val d.toList)).toNat 4) = d; rw [u32_val hs, numS_of hs], rfl⟩
theorem say_other {x : Ipc} {o : Opt} {t : UInt8} (ht : known t = true) (ho : known o.1 = true) (h : t ≠ o.1) : dat t (say x o) = dat t x ∧ has t (say x o) = has t x := by
  obtain ⟨u, d⟩ := o
  simp only at ho h
  rcases known_cases ho with e | e | e <;> subst e <;> rcases known_cases ht with e | e | e <;> subst e <;> first | exact absurd rfl h | exact ⟨rfl, rfl⟩
theorem may_iff (x : Ipc) : may x = true ↔ (x.ha = false → x.addr = 0) ∧ (x.h1 = false → x.dns1 = 0) ∧ (x.h2 = false → x.dns2 = 0) := by
  unfold may
  cases x.ha <;> cases x.h1 <;> cases x.h2 <;> simp [and_assoc]
theorem say_may {x : Ipc} {o : Opt} (hx : may x = true) (h : good o = true) : may (say x o) = true := by
  obtain ⟨t, d⟩ := o
  rw [may_iff] at hx ⊢
  obtain ⟨h2, h3, h4⟩ := hx
  rcases known_cases (good_known h) with e | e | e <;> (simp only at e; subst e)
  · exact ⟨(fun e => by cases e), h3, h4⟩
  · exact ⟨h2, (fun e => by cases e), h4⟩
  · exact ⟨h2, h3, (fun e => by cases e)⟩
/-- Two that may be put are one where each option of the three is present in both, with the same data, or in neither. -/
theorem may_ext {x y : Ipc} (hx : may x = true) (hy : may y = true) (h : ∀ t, known t = true → has t x = has t y ∧ (has t x = true → dat t x = dat t y)) : x = y := by
  rw [may_iff] at hx hy
  obtain ⟨a2, a3, a4⟩ := hx
  obtain ⟨b2, b3, b4⟩ := hy
  obtain ⟨h1, d1⟩ := h 3 rfl
  obtain ⟨h2, d2⟩ := h 129 rfl
  obtain ⟨h5, d5⟩ := h 131 rfl
  change x.ha = y.ha at h1
  change x.h1 = y.h1 at h2
  change x.h2 = y.h2 at h5
  change x.ha = true → bOf (numS x.addr.toNat 4) = bOf (numS y.addr.toNat 4) at d1
  change x.h1 = true → bOf (numS x.dns1.toNat 4) = bOf (numS y.dns1.toNat 4) at d2
  change x.h2 = true → bOf (numS x.dns2.toNat 4) = bOf (numS y.dns2.toNat 4) at d5
  have e1 : x.addr = y.addr := by
    cases hh : x.ha
    · rw [a2 hh, b2 (by rw [← h1, hh])]
    · rw [← numS_u32 x.addr, d1 hh, numS_u32]
  have e2 : x.dns1 = y.dns1 := by
    cases hh : x.h1
    · rw [a3 hh, b3 (by rw [← h2, hh])]
    · rw [← numS_u32 x.dns1, d2 hh, numS_u32]
  have e5 : x.dns2 = y.dns2 := by
    cases hh : x.h2
    · rw [a4 hh, b4 (by rw [← h5, hh])]
    · rw [← numS_u32 x.dns2, d5 hh, numS_u32]
  obtain ⟨p1, p2, p3, p4, p5, p6⟩ := x
  obtain ⟨q1, q2, q3, q4, q5, q6⟩ := y
  simp only at h1 h2 h5 e1 e2 e5
  subst h1 h2 h5 e1 e2 e5
  rfl
/-- x says what the valid options gs say. -/
def Rep (x : Ipc) (gs : List Opt) : Prop := may x = true ∧ (∀ t, known t = true → (has t x = true ↔ ∃ d, (t, d) ∈ gs)) ∧ ∀ t d, (t, d) ∈ gs → dat t x = d
theorem Rep.unique {x y : Ipc} {gs gs' : List Opt} (h : Rep x gs) (h' : Rep y gs') (hm : ∀ o, o ∈ gs ↔ o ∈ gs') : x = y := by
  refine may_ext h.1 h'.1 fun t ht => ?_
  have hx := h.2.1 t ht
  have hy := h'.2.1 t ht
  refine ⟨?_, fun e => ?_⟩
  · rw [Bool.eq_iff_iff, hx, hy]
    exact ⟨fun ⟨d, hd⟩ => ⟨d, (hm _).1 hd⟩, fun ⟨d, hd⟩ => ⟨d, (hm _).2 hd⟩⟩
  · obtain ⟨d, hd⟩ := hx.1 e
    rw [h.2.2 t d hd, h'.2.2 t d ((hm _).1 hd)]
def goods (l : List Opt) : List Opt := l.filter fun o => good o
def odds (l : List Opt) : List Opt := l.filter fun o => !good o
def Dis (l : List Opt) : Prop := (l.map (·.1)).Nodup
theorem rep_nil : Rep lz [] := by
  refine ⟨rfl, fun t ht => ⟨fun h => ?_, fun ⟨d, h⟩ => by cases h⟩, fun t d h => by cases h⟩
  rcases known_cases ht with e | e | e <;> subst e <;> cases h
theorem goods_snoc (l : List Opt) (o : Opt) : goods (l ++ [o]) = if good o then goods l ++ [o] else goods l := by
  unfold goods
  rw [List.filter_append]
  by_cases h : good o = true <;> simp [h]
theorem odds_snoc (l : List Opt) (o : Opt) : odds (l ++ [o]) = if good o then odds l else odds l ++ [o] := by
  unfold odds
  rw [List.filter_append]
  by_cases h : good o = true <;> simp [h]
theorem goods_good {l : List Opt} {o : Opt} (h : o ∈ goods l) : good o = true := (List.mem_filter.1 h).2
theorem dis_snoc (l : List Opt) (o : Opt) : Dis (l ++ [o]) ↔ Dis l ∧ ∀ d, (o.1, d) ∉ l := by
  unfold Dis
  rw [List.map_append, List.nodup_append]
  simp only [List.map_cons, List.map_nil, List.mem_map, List.mem_singleton, List.nodup_cons, List.not_mem_nil, not_false_eq_true, List.nodup_nil, and_self, true_and]
  constructor
  · rintro ⟨h1, h2⟩
    exact ⟨h1, fun d hd => h2 o.1 ⟨_, hd, rfl⟩ o.1 rfl rfl⟩
  · rintro ⟨h1, h2⟩
    refine ⟨h1, ?_⟩
    rintro t ⟨⟨t', d⟩, hd, rfl⟩ u rfl e
    simp only at e
    subst e
    exact h2 d hd
theorem Rep.snoc {x : Ipc} {gs : List Opt} {o : Opt} (h : Rep x gs) (hg : ∀ p ∈ gs, good p = true) (ho : good o = true) (hn : ∀ d, (o.1, d) ∉ gs) : Rep (say x o) (gs ++ [o]) := by
  have hk := good_known ho
  refine ⟨say_may h.1 ho, fun t ht => ?_, fun t d hd => ?_⟩
  · by_cases e : t = o.1
    · subst e
      exact ⟨fun _ => ⟨o.2, by simp⟩, fun _ => (dat_say (x := x) (t := o.1) (d := o.2) ho).2⟩
    · rw [(say_other (x := x) ht hk e).2, h.2.1 t ht]
      constructor
      · rintro ⟨d, hd⟩; exact ⟨d, by simp [hd]⟩
      · rintro ⟨d, hd⟩
        rcases List.mem_append.1 hd with hd | hd
        · exact ⟨d, hd⟩
        · rw [List.mem_singleton] at hd
          exact absurd (congrArg Prod.fst hd) e
  · rcases List.mem_append.1 hd with hd | hd
    · have e : t ≠ o.1 := fun e => hn d (by rw [← e]; exact hd)
      rw [(say_other (x := x) (good_known (hg _ hd)) hk e).1, h.2.2 t d hd]
    · rw [List.mem_singleton] at hd
      rw [← hd] at ho ⊢
      exact (dat_say ho).1
theorem snoc_ind {P : List Opt → Prop} (h0 : P []) (h1 : ∀ l o, P l → P (l ++ [o])) : ∀ l, P l := fun l => by
  rw [← List.reverse_reverse l]
  induction l.reverse with
  | nil => exact h0
  | cons o r ih => rw [List.reverse_cons]; exact h1 _ _ ih
/-- What options say. -/
theorem st_spec (l : List Opt) : (Dis (goods l) → ∃ x, st l = some (x, odds l) ∧ Rep x (goods l)) ∧ (¬ Dis (goods l) → st l = none) := by
  revert l
  refine snoc_ind ⟨fun _ => ⟨lz, rfl, rep_nil⟩, fun h => absurd List.nodup_nil h⟩ fun l o ih => ?_
  rw [goods_snoc, odds_snoc, st_snoc]
  by_cases ho : good o = true
  · rw [if_pos ho, if_pos ho, dis_snoc]
    by_cases hd : Dis (goods l)
    · obtain ⟨x, hx, hr⟩ := ih.1 hd
      rw [hx]
      by_cases hn : ∀ d, (o.1, d) ∉ goods l
      · have hh : has o.1 x = false := by
          rw [Bool.eq_false_iff]
          intro e
          obtain ⟨d, hd'⟩ := (hr.2.1 _ (good_known ho)).1 e
          exact hn d hd'
        refine ⟨fun _ => ⟨say x o, ?_, hr.snoc (fun p hp => goods_good hp) ho hn⟩, fun h => absurd ⟨hd, hn⟩ h⟩
        simp [step, ho, hh]
      · have hh : has o.1 x = true := by
          refine (hr.2.1 _ (good_known ho)).2 ?_
          rcases Classical.em (∃ d, (o.1, d) ∈ goods l) with h | h
          · exact h
          · exact absurd (fun d hd' => h ⟨d, hd'⟩) hn
        exact ⟨fun h => absurd h.2 hn, fun _ => by simp [step, ho, hh]⟩
    · rw [ih.2 hd]
      exact ⟨fun h => absurd h.1 hd, fun _ => rfl⟩
  · rw [if_neg ho, if_neg ho]
    by_cases hd : Dis (goods l)
    · obtain ⟨x, hx, hr⟩ := ih.1 hd
      rw [hx]
      exact ⟨fun _ => ⟨x, by simp [step, ho], hr⟩, fun h => absurd hd h⟩
    · rw [ih.2 hd]
      exact ⟨fun h => absurd h hd, fun _ => rfl⟩
theorem st_some {l : List Opt} {x : Ipc} {o : List Opt} (h : st l = some (x, o)) : Dis (goods l) ∧ o = odds l ∧ Rep x (goods l) := by
  rcases Classical.em (Dis (goods l)) with hd | hd
  · obtain ⟨y, hy, hr⟩ := (st_spec l).1 hd
    rw [h] at hy
    cases hy
    exact ⟨hd, rfl, hr⟩
  · rw [(st_spec l).2 hd] at h; cases h
/-! ### put -/
theorem mem_put {x : Ipc} {t : UInt8} {d : ByteArray} : (t, d) ∈ put x ↔ known t = true ∧ has t x = true ∧ d = dat t x := by
  unfold put
  rw [List.mem_filterMap]
  constructor
  · rintro ⟨u, hu, e⟩
    split at e
    · rename_i hh
      simp only [Option.some.injEq, Prod.mk.injEq] at e
      obtain ⟨rfl, rfl⟩ := e
      exact ⟨known_iff.2 hu, hh, rfl⟩
    · cases e
  · rintro ⟨hk, hh, rfl⟩
    exact ⟨t, known_iff.1 hk, by rw [if_pos hh]⟩
theorem dat_good {x : Ipc} {t : UInt8} (ht : known t = true) : good (t, dat t x) = true :=
  good_of ht (by show (bOf (numS (adr t x).toNat 4)).size = 4; rw [size_bOf, numS_length])
theorem put_good (x : Ipc) : ∀ o ∈ put x, good o = true := by
  rintro ⟨t, d⟩ ho
  obtain ⟨hk, hh, rfl⟩ := mem_put.1 ho
  exact dat_good hk
theorem put_rep {x : Ipc} (hx : may x = true) : Rep x (put x) :=
  ⟨hx, fun t ht => ⟨fun h => ⟨dat t x, mem_put.2 ⟨ht, h, rfl⟩⟩, fun ⟨d, hd⟩ => (mem_put.1 hd).2.1⟩, fun t d hd => (mem_put.1 hd).2.2.symm⟩
/-- The types rise. -/
def Rise (l : List Opt) : Prop := l.Pairwise fun a b => a.1 < b.1
theorem put_rise (x : Ipc) : Rise (put x) := by
  unfold Rise put
  rw [List.pairwise_filterMap]
  have hp : six.Pairwise (· < ·) := by decide
  refine hp.imp ?_
  intro a b hab o ho p hp
  split at ho
  · split at hp
    · cases ho; cases hp; exact hab
    · cases hp
  · cases ho
theorem u8_lt_irrefl (a : UInt8) : ¬ a < a := fun h => Nat.lt_irrefl _ (UInt8.lt_iff_toNat_lt.1 h)
theorem u8_lt_trans {a b c : UInt8} (h : a < b) (k : b < c) : a < c := UInt8.lt_iff_toNat_lt.2 (Nat.lt_trans (UInt8.lt_iff_toNat_lt.1 h) (UInt8.lt_iff_toNat_lt.1 k))
theorem u8_lt_asymm {a b : UInt8} (h : a < b) : ¬ b < a := fun k => u8_lt_irrefl _ (u8_lt_trans h k)
theorem rise_dis {l : List Opt} (h : Rise l) : Dis l := by
  unfold Dis
  rw [List.nodup_iff_pairwise_ne, List.pairwise_map]
  refine List.Pairwise.imp ?_ (show l.Pairwise fun a b => a.1 < b.1 from h)
  intro a b hab e
  rw [e] at hab
  exact u8_lt_irrefl _ hab
theorem rise_nodup {l : List Opt} (h : Rise l) : l.Nodup := by
  rw [List.nodup_iff_pairwise_ne]
  refine List.Pairwise.imp ?_ (show l.Pairwise fun a b => a.1 < b.1 from h)
  intro a b hab e
  rw [e] at hab
  exact u8_lt_irrefl _ hab
theorem rise_unique : ∀ {l m : List Opt}, Rise l → Rise m → (∀ o, o ∈ l ↔ o ∈ m) → l = m
  | [], [], _, _, _ => rfl
  | [], b :: m, _, _, h => by have := (h b).2 (by simp); cases this
  | a :: l, [], _, _, h => by have := (h a).1 (by simp); cases this
  | a :: l, b :: m, hl, hm, h => by
    obtain ⟨l1, l2⟩ := List.pairwise_cons.1 hl
    obtain ⟨m1, m2⟩ := List.pairwise_cons.1 hm
    have e : a = b := by
      rcases List.mem_cons.1 ((h a).1 (by simp)) with e | ha
      · exact e
      · rcases List.mem_cons.1 ((h b).2 (by simp)) with e | hb
        · exact e.symm
        · exact absurd (l1 b hb) (u8_lt_asymm (m1 a ha))
    subst e
    congr 1
    refine rise_unique l2 m2 fun o => ⟨fun ho => ?_, fun ho => ?_⟩
    · rcases List.mem_cons.1 ((h o).1 (by simp [ho])) with e | ho'
      · subst e; exact absurd (l1 _ ho) (u8_lt_irrefl _)
      · exact ho'
    · rcases List.mem_cons.1 ((h o).2 (by simp [ho])) with e | ho'
      · subst e; exact absurd (m1 _ ho) (u8_lt_irrefl _)
      · exact ho'
theorem goods_all {l : List Opt} (h : ∀ o ∈ l, good o = true) : goods l = l := List.filter_eq_self.2 h
theorem odds_all {l : List Opt} (h : ∀ o ∈ l, good o = true) : odds l = [] := by
  unfold odds
  rw [List.filter_eq_nil_iff]
  intro o ho
  simp [h o ho]
/-- What was put is got. -/
theorem st_put {x : Ipc} (hx : may x = true) : st (put x) = some (x, []) := by
  have hg := put_good x
  obtain ⟨y, hy, hr⟩ := (st_spec (put x)).1 (by rw [goods_all hg]; exact rise_dis (put_rise x))
  rw [odds_all hg] at hy
  rw [goods_all hg] at hr
  rw [hy, hr.unique (put_rep hx) (fun _ => Iff.rfl)]
theorem put_inj {x y : Ipc} (hx : may x = true) (hy : may y = true) (h : put x = put y) : x = y := by
  have := st_put hx
  rw [h, st_put hy] at this
  cases this
  rfl
theorem dis_nodup {l : List Opt} (h : Dis l) : l.Nodup := by
  unfold Dis at h
  rw [List.nodup_iff_pairwise_ne, List.pairwise_map] at h
  rw [List.nodup_iff_pairwise_ne]
  exact h.imp fun hab e => hab (by rw [e])
theorem nodup_len : ∀ {l m : List Opt}, l.Nodup → (∀ o ∈ l, o ∈ m) → l.length ≤ m.length
  | [], m, _, _ => Nat.zero_le _
  | a :: l, m, hn, h => by
    obtain ⟨h1, h2⟩ := List.nodup_cons.1 hn
    obtain ⟨m1, m2, rfl⟩ := List.append_of_mem (h a (by simp))
    have := nodup_len (l := l) (m := m1 ++ m2) h2 (fun o ho => by
      have h3 := h o (by simp [ho])
      rw [List.mem_append, List.mem_cons] at h3
      rw [List.mem_append]
      rcases h3 with h3 | rfl | h3
      · exact .inl h3
      · exact absurd ho h1
      · exact .inr h3)
    rw [List.length_append] at this
    rw [List.length_cons, List.length_append, List.length_cons]
    omega
/-- What is got with nothing odd is put as those options. -/
theorem got_put {l : List Opt} {y : Ipc} (h : st l = some (y, [])) : may y = true ∧ (∀ o, o ∈ put y ↔ o ∈ l) ∧ (put y).length = l.length := by
  obtain ⟨hd, ho, hr⟩ := st_some h
  have hg : ∀ o ∈ l, good o = true := by
    intro o hm
    rcases hh : good o with _ | _
    · have : o ∈ odds l := List.mem_filter.2 ⟨hm, by simp [hh]⟩
      rw [← ho] at this
      cases this
    · rfl
  rw [goods_all hg] at hd hr
  have hm : ∀ o, o ∈ put y ↔ o ∈ l := by
    rintro ⟨t, d⟩
    rw [mem_put]
    constructor
    · rintro ⟨hk, hh, rfl⟩
      obtain ⟨d, hd'⟩ := (hr.2.1 t hk).1 hh
      rw [hr.2.2 t d hd']
      exact hd'
    · intro hm
      exact ⟨good_known (hg _ hm), (hr.2.1 t (good_known (hg _ hm))).2 ⟨d, hm⟩, (hr.2.2 t d hm).symm⟩
  refine ⟨hr.1, hm, ?_⟩
  have n1 := rise_nodup (put_rise y)
  have n2 := dis_nodup hd
  exact Nat.le_antisymm (nodup_len n1 (fun o ho => (hm o).1 ho)) (nodup_len n2 (fun o ho => (hm o).2 ho))
/-- The order makes no difference. -/
theorem st_perm {l m : List Opt} (h : l.Perm m) : gL l = gL m ∧ (gO l).length = (gO m).length ∧ gE l = gE m := by
  have hg : (goods l).Perm (goods m) := h.filter _
  have ho : (odds l).Perm (odds m) := h.filter _
  have hd : Dis (goods l) ↔ Dis (goods m) := (hg.map _).nodup_iff
  unfold gL gO gE
  rcases Classical.em (Dis (goods l)) with hl | hl
  · obtain ⟨x, hx, hr⟩ := (st_spec l).1 hl
    obtain ⟨y, hy, hs⟩ := (st_spec m).1 (hd.1 hl)
    rw [hx, hy]
    exact ⟨hr.unique hs (fun _ => hg.mem_iff), ho.length_eq, rfl⟩
  · rw [(st_spec l).2 hl, (st_spec m).2 (fun h => hl (hd.2 h))]
    exact ⟨rfl, rfl, rfl⟩
/-- One that is odd makes none. -/
theorem st_odd {l : List Opt} {o : Opt} (h : good o = false) (n : Nat) : gL (l.take n ++ (o :: l.drop n)) = gL l ∧ gE (l.take n ++ (o :: l.drop n)) = gE l ∧ (gE l = 0 → (gO (l.take n ++ (o :: l.drop n))).length = (gO l).length + 1) := by
  have hp : (l.take n ++ (o :: l.drop n)).Perm (o :: l) := by
    refine List.perm_middle.trans ?_
    rw [List.take_append_drop]
  have hc := st_perm hp
  rw [hc.1, hc.2.1, hc.2.2]
  have hg : goods (o :: l) = goods l := by unfold goods; rw [List.filter_cons]; simp [h]
  have ho : odds (o :: l) = o :: odds l := by unfold odds; rw [List.filter_cons]; simp [h]
  unfold gL gO gE
  rcases Classical.em (Dis (goods l)) with hl | hl
  · obtain ⟨x, hx, hr⟩ := (st_spec l).1 hl
    obtain ⟨y, hy, hs⟩ := (st_spec (o :: l)).1 (by rw [hg]; exact hl)
    rw [hx, hy, ho]
    rw [hg] at hs
    exact ⟨hs.unique hr (fun _ => Iff.rfl), rfl, fun _ => by simp⟩
  · rw [(st_spec l).2 hl, (st_spec (o :: l)).2 (by rw [hg]; exact hl)]
    exact ⟨rfl, rfl, fun e => by cases e⟩
end Go.Proofs.YtgefodpnhifmdaaGreat.Ipc

/- A policy of IPCP's options: what is asked, what is said of each option, what a reply changes. Plain mathematics, of no program. -/
namespace Go.Proofs.YtgefodpnhifmdaaGreat.Ipp
open Go.Proofs.YtgefodpnhifmdaaGreat.Oct Go.Proofs.YtgefodpnhifmdaaGreat.Opt Go.Proofs.YtgefodpnhifmdaaGreat.Ipc

/-- A configuration. -/
structure Conf where
  addr : UInt32
  peer : UInt32
  dns1 : UInt32
  dns2 : UInt32
  want : Bool
  mn : Int
deriving DecidableEq
def cv (c : Conf) : List Value := [.int .u32 c.addr.toNat, .int .u32 c.peer.toNat, .int .u32 c.dns1.toNat, .int .u32 c.dns2.toNat, .bool c.want, .int .i64 c.mn]
/-- A policy: its wishes, conf, what was acked, what the peer's is, Naks in a row. -/
structure Po where
  w : Ipc
  c : Conf
  mine : Ipc
  peer : Ipc
  naks : Nat
/-- Its cells, the program's and the document's. -/
def pv (p : Po) : List Value := lv p.w ++ (cv p.c ++ (lv p.mine ++ (lv p.peer ++ [.int .i64 p.naks])))
def dv (p : Po) : List Value := cv p.c ++ (lv p.w ++ (lv p.mine ++ (lv p.peer ++ [.int .i64 p.naks])))

/-- Whether a configuration is valid. -/
def mayC (c : Conf) : Bool := decide (1 ≤ c.mn) && decide (c.mn ≤ 10)
def wish (c : Conf) : Ipc := ⟨true, c.addr, c.want, 0, c.want, 0⟩
def newP (c : Conf) : Po := ⟨wish c, c, lz, lz, 0⟩
def req (p : Po) : List Opt := put p.w

/-! ### what is said of an option -/
def lo (o : Opt) : Ipc := gL [o]
def ad (o : Opt) : UInt32 := UInt32.ofNat (val o.2.toList)
/-- The address that an option must have; 0: any. -/
def giv (p : Po) (t : UInt8) : UInt32 := if t = 3 then p.c.peer else if t = 129 then p.c.dns1 else p.c.dns2
def or32 (a b : UInt32) : UInt32 := if a = 0 then b else a
/-- What the program's function says: a struct. -/
def bet (p : Po) (t : UInt8) (x : Ipc) : Ipc :=
  if t = 3 then ⟨or32 p.c.peer x.addr != 0, or32 p.c.peer x.addr, false, 0, false, 0⟩
  else if t = 129 then ⟨false, 0, p.c.dns1 != 0, p.c.dns1, false, 0⟩
  else ⟨false, 0, false, 0, p.c.dns2 != 0, p.c.dns2⟩
/-- The address that is suggested. -/
def sa (p : Po) (t : UInt8) (x : Ipc) : UInt32 := if t = 3 then or32 p.c.peer x.addr else giv p t
def zo : Opt := (0, ByteArray.empty)
def ok (p : Po) (o : Opt) : Bool := good o && sa p o.1 (lo o) != 0
def sug (p : Po) (o : Opt) : Opt := (o.1, bOf (numS (sa p o.1 (lo o)).toNat 4))
def imp (p : Po) (o : Opt) : Opt := if ok p o then sug p o else zo
/-- How a received option is judged. -/
structure Ver where
  got : Opt
  rej : Bool
  bet : Opt
deriving DecidableEq
def seen (l : List Opt) (t : UInt8) : Bool := l.any fun o => o.1 == t
def ver (p : Po) (l : List Opt) (o : Opt) : Ver := ⟨o, seen l o.1 || !ok p o, imp p o⟩
def vs (p : Po) (l : List Opt) : List Ver := (List.range l.length).map fun i => ver p (l.take i) (l.getD i zo)
def poor (v : Ver) : Bool := !v.rej && !decide (v.bet = v.got)
def refs (l : List Ver) : List Opt := l.filterMap fun v => if v.rej then some v.got else none
def poors (l : List Ver) : List Opt := l.filterMap fun v => if poor v then some v.got else none
def insts (l : List Ver) : List Opt := l.filterMap fun v => if poor v then some v.bet else none
/-- An address that lacks. -/
def miss (p : Po) (l : List Opt) : List Opt := if fB 3 l then [] else put (bet p 3 lz)
def sugs (p : Po) (l : List Opt) : List Opt := insts (vs p l) ++ miss p l

/-- Judge: which way. -/
inductive Way | rej | nak | poor | ack
deriving DecidableEq
def way (p : Po) (l : List Opt) : Way := if refs (vs p l) ≠ [] then .rej else if sugs p l ≠ [] ∧ (p.naks : Int) < p.c.mn then .nak else if poors (vs p l) ≠ [] then .poor else .ack
def jC (p : Po) (l : List Opt) : Nat := match way p l with | .rej => 4 | .nak => 3 | .poor => 4 | .ack => 2
def jA (p : Po) (l : List Opt) : List Opt := match way p l with | .rej => refs (vs p l) | .nak => sugs p l | .poor => poors (vs p l) | .ack => l
def jP (p : Po) (l : List Opt) : Po := match way p l with | .rej => { p with naks := 0 } | .nak => { p with naks := p.naks + 1 } | .poor => { p with naks := 0 } | .ack => { p with naks := 0, peer := gL l }

/-! ### replies -/
def akB (p : Po) (l : List Opt) : Bool := decide (l = req p)
def akP (p : Po) (l : List Opt) : Po := if akB p l then { p with mine := p.w } else p
def nkB (l : List Opt) : Bool := decide (l ≠ []) && gE l == 0
/-- The wishes, once those of the types in m were gone by. -/
def nkW (c : Conf) (w x : Ipc) (m : UInt8 → Bool) : Ipc :=
  { w with
    addr := if m 3 && c.addr == 0 then or32 x.addr w.addr else w.addr
    dns1 := if m 129 then or32 x.dns1 w.dns1 else w.dns1
    dns2 := if m 131 then or32 x.dns2 w.dns2 else w.dns2 }
def nkP (p : Po) (l : List Opt) : Po := if nkB l then { p with w := nkW p.c p.w (gL l) (fun t => has t p.w) } else p
def dropW (w : Ipc) (t : UInt8) : Ipc :=
  if t = 3 then { w with ha := false, addr := 0 } else if t = 129 then { w with h1 := false, dns1 := 0 } else if t = 131 then { w with h2 := false, dns2 := 0 } else w
def dropP (p : Po) (o : Opt) : Po := { p with w := dropW p.w o.1 }
/-- Whether all of l stands in whole, in its order. -/
def part : List Opt → List Opt → Bool
  | [], _ => true
  | _ :: _, [] => false
  | o :: l, x :: r => if x = o then part l r else part (o :: l) r
def rjB (p : Po) (l : List Opt) : Bool := decide (l ≠ []) && part l (req p)
def rjP (p : Po) (l : List Opt) : Po := if rjB p l then l.foldl dropP p else p

/-! ### rows of verdicts -/
theorem vs_nil (p : Po) : vs p [] = [] := rfl
theorem vs_snoc (p : Po) (l : List Opt) (k : Nat) (o : Opt) (h : l[k]? = some o) : vs p (l.take (k + 1)) = vs p (l.take k) ++ [ver p (l.take k) o] := by
  obtain ⟨hk, rfl⟩ := List.getElem?_eq_some_iff.1 h
  unfold vs
  have e1 : (l.take (k + 1)).length = k + 1 := by rw [List.length_take]; omega
  have e0 : (l.take k).length = k := by rw [List.length_take]; omega
  rw [e1, e0, List.range_succ, List.map_append, List.map_cons, List.map_nil]
  congr 1
  · apply List.map_congr_left
    intro i hi
    have hi' : i < k := List.mem_range.1 hi
    rw [List.take_take, List.take_take, Nat.min_eq_left (by omega), Nat.min_eq_left (by omega)]
    congr 1
    rw [List.getD_eq_getElem?_getD, List.getD_eq_getElem?_getD, List.getElem?_take_of_lt (by omega), List.getElem?_take_of_lt hi']
  · rw [List.take_take, Nat.min_eq_left (by omega)]
    congr 2
    rw [List.getD_eq_getElem?_getD, List.getElem?_take_of_lt (by omega), List.getElem?_eq_getElem hk]
    rfl
theorem vs_length (p : Po) (l : List Opt) : (vs p l).length = l.length := by unfold vs; simp
theorem seen_snoc (l : List Opt) (k : Nat) (o : Opt) (h : l[k]? = some o) (t : UInt8) : seen (l.take (k + 1)) t = (seen (l.take k) t || o.1 == t) := by
  obtain ⟨hk, rfl⟩ := List.getElem?_eq_some_iff.1 h
  unfold seen
  rw [List.take_succ_eq_append_getElem hk, List.any_append]
  simp

/-! ### one option -/
theorem st_one (o : Opt) : st [o] = if good o then some (say lz o, []) else some (lz, [o]) := by
  have h := st_snoc [] o
  rw [List.nil_append, st_nil] at h
  rw [h]
  unfold Ipc.step
  cases hg : good o
  · simp
  · have hh : has o.1 lz = false := by rcases known_cases (good_known hg) with e | e | e <;> rw [e] <;> rfl
    simp only [if_true, hh, Bool.false_eq_true, if_false]
theorem lo_good {o : Opt} (h : good o = true) : lo o = say lz o := by unfold lo Ipc.gL; rw [st_one, if_pos h]
theorem lo_bad {o : Opt} (h : good o = false) : lo o = lz := by unfold lo Ipc.gL; rw [st_one, h]; rfl
theorem lo_addr {o : Opt} (h : good o = true) (h3 : o.1 = 3) : (lo o).addr = ad o := by
  rw [lo_good h]
  unfold say Ipc.set
  rw [if_pos h3]
  rfl
theorem ok_good {p : Po} {o : Opt} (h : ok p o = true) : good o = true := (Bool.and_eq_true_iff.1 h).1
theorem ok_known {p : Po} {o : Opt} (h : ok p o = true) : known o.1 = true := good_known (ok_good h)
theorem bne0 {v : UInt32} (h : (v != 0) = false) : v = 0 := by simpa using h
/-- What the functions say may be put, and is found again. -/
theorem bet_may (p : Po) (t : UInt8) (x : Ipc) : may (bet p t x) = true := by
  rw [may_iff]
  unfold bet
  split
  · exact ⟨fun h => bne0 h, fun _ => rfl, fun _ => rfl⟩
  · split
    · exact ⟨fun _ => rfl, fun h => bne0 h, fun _ => rfl⟩
    · exact ⟨fun _ => rfl, fun _ => rfl, fun h => bne0 h⟩
theorem put3 (b : Bool) (a : UInt32) : put ⟨b, a, false, 0, false, 0⟩ = if b then [(3, bOf (numS a.toNat 4))] else [] := by cases b <;> rfl
theorem put129 (b : Bool) (a : UInt32) : put ⟨false, 0, b, a, false, 0⟩ = if b then [(129, bOf (numS a.toNat 4))] else [] := by cases b <;> rfl
theorem put131 (b : Bool) (a : UInt32) : put ⟨false, 0, false, 0, b, a⟩ = if b then [(131, bOf (numS a.toNat 4))] else [] := by cases b <;> rfl
theorem put_bet {p : Po} {t : UInt8} (ht : known t = true) (x : Ipc) : put (bet p t x) = if sa p t x != 0 then [(t, bOf (numS (sa p t x).toNat 4))] else [] := by
  rcases known_cases ht with e | e | e <;> subst e
  · exact put3 _ _
  · exact put129 _ _
  · exact put131 _ _
theorem find_bet {p : Po} {o : Opt} (h : good o = true) : fA o.1 (put (bet p o.1 (lo o))) = imp p o ∧ fB o.1 (put (bet p o.1 (lo o))) = ok p o := by
  rw [put_bet (good_known h)]
  unfold imp ok sug
  rw [h]
  cases hb : (sa p o.1 (lo o) != 0)
  · exact ⟨rfl, rfl⟩
  · have hf : fd o.1 [((o.1, bOf (numS (sa p o.1 (lo o)).toNat 4)) : Opt)] = some (o.1, bOf (numS (sa p o.1 (lo o)).toNat 4)) := by
      unfold fd
      rw [List.find?_cons, show ((((o.1, bOf (numS (sa p o.1 (lo o)).toNat 4)) : Opt).1 == o.1)) = true from beq_self_eq_true _]
    simp only [if_true, Bool.and_self]
    unfold fA fB
    rw [hf]
    exact ⟨rfl, rfl⟩
theorem sug_size (p : Po) (o : Opt) : (sug p o).2.size = 4 := by
  show (bOf (numS _ 4)).size = 4
  rw [size_bOf, numS_length]
theorem imp_size (p : Po) (o : Opt) : (imp p o).2.size ≤ 4 := by
  unfold imp
  split
  · rw [sug_size]; exact Nat.le_refl _
  · exact Nat.zero_le _
theorem miss_eq (p : Po) (l : List Opt) : miss p l = if fB 3 l then [] else if p.c.peer != 0 then [(3, bOf (numS p.c.peer.toNat 4))] else [] := by
  unfold miss
  split
  · rfl
  · rw [put_bet rfl]
    have : sa p 3 lz = p.c.peer := by
      show or32 p.c.peer 0 = _
      unfold or32
      split
      · rename_i e; exact e.symm
      · rfl
    rw [this]
end Go.Proofs.YtgefodpnhifmdaaGreat.Ipp
