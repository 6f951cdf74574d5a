/- Rows of options (a byte and a text each) in memory: among the arguments, of the call's own. Of no program. -/
import Derived.Test.YtpfbknbloeilmaaDoorGReads
import Derived.Deep.Slices
import Derived.Deep.Fields
import Derived.SizedLaws
import Derived.WalkKit
import Derived.ProofKit
import Derived.Lib.SmallJoins
namespace Go.Proofs.YtpfbknbloeilmaaDoor.Opt
open Go.ChangeShapes Go.WideShapes Go.ChangeAt Go.RowKit Go.Joins Go.Deep Go.Proofs.YtpfbknbloeilmaaDoor.Oct

abbrev Opt := UInt8 × ByteArray
/-- The options' cells. -/
def optV (o : Opt) : List Value := [.int .u8 o.1.toNat, .string o.2]
def optsV (l : List Opt) : List Value := l.flatMap optV
theorem optsV_nil : optsV [] = [] := rfl
theorem optsV_append (l m : List Opt) : optsV (l ++ m) = optsV l ++ optsV m := by unfold optsV; rw [List.flatMap_append]
theorem optsV_one (o : Opt) : optsV [o] = [.int .u8 o.1.toNat, .string o.2] := by simp [optsV, optV]
theorem optsV_length : ∀ l : List Opt, (optsV l).length = l.length * 2
  | [] => rfl
  | o :: l => by
    show (optV o ++ optsV l).length = _
    rw [List.length_append, optsV_length l, List.length_cons]
    simp [optV]; omega
theorem optsV_ones (l : List Opt) : ∀ u ∈ optsV l, u.oneCell' = true := by
  intro u hu
  obtain ⟨o, _, ho⟩ := List.mem_flatMap.1 hu
  simp [optV] at ho
  rcases ho with rfl | rfl <;> rfl
theorem optsV_at : ∀ (l : List Opt) (j : Nat) (h : j < l.length), (optsV l)[j * 2]? = some (.int .u8 l[j].1.toNat) ∧ (optsV l)[j * 2 + 1]? = some (.string l[j].2)
  | o :: l, 0, _ => ⟨rfl, rfl⟩
  | o :: l, j + 1, h => by
    have := optsV_at l j (by simpa using h)
    have e : optsV (o :: l) = .int .u8 o.1.toNat :: .string o.2 :: optsV l := rfl
    rw [e, show (j + 1) * 2 = j * 2 + 1 + 1 by omega]
    simpa using this

/-- The slice '.slice A n c' holds the options l, in blocks below B. -/
def Opts (w : World) (B : Nat) (A : Option Addr) (n : Nat) (l : List Opt) : Prop :=
  l.length = n ∧ (∀ o ∈ l, o.2.size ≤ 140737488351232) ∧ (0 < n → ∃ ad, A = some ad ∧ ad.block < B ∧ ∀ j (h : j < l.length), w.cell? (ad.add (j * 2)) = some (.int .u8 l[j].1.toNat) ∧ w.cell? ⟨(ad.add (j * 2)).block, (ad.add (j * 2)).off + 1, none⟩ = some (.string l[j].2))
theorem Opts.below {w w' : World} {B : Nat} {A : Option Addr} {n : Nat} {l : List Opt} (h : Opts w B A n l) (hb : Below B w w') : Opts w' B A n l :=
  ⟨h.1, h.2.1, fun hn => by
    obtain ⟨ad, e, hB, hc⟩ := h.2.2 hn
    exact ⟨ad, e, hB, fun j hj => ⟨(hb.cell (by rw [Oct.block_add]; exact hB)).trans (hc j hj).1, (hb.cell (by show (ad.add (j * 2)).block < B; rw [Oct.block_add]; exact hB)).trans (hc j hj).2⟩⟩⟩
theorem Opts.more {w : World} {B B' : Nat} {A : Option Addr} {n : Nat} {l : List Opt} (h : Opts w B A n l) (hb : B ≤ B') : Opts w B' A n l :=
  ⟨h.1, h.2.1, fun hn => by
    obtain ⟨ad, e, hB, hc⟩ := h.2.2 hn
    exact ⟨ad, e, by omega, hc⟩⟩
theorem Opts.callee {w w' : World} {B : Nat} {A : Option Addr} {n : Nat} {l : List Opt} (h : Opts w B A n l) (hb : Below w.heap.size w w') (hB : B ≤ w.heap.size) : Opts w' B A n l := h.below (hb.mono hB)
theorem Opts.at_ {w : World} {B : Nat} {A : Option Addr} {n k : Nat} {l : List Opt} (h : Opts w B A n l) (hk : k < n) :
    ∃ ad o, A = some ad ∧ ad.block < B ∧ l[k]? = some o ∧ o.2.size ≤ 140737488351232 ∧ w.cell? (ad.add (k * 2)) = some (.int .u8 o.1.toNat) ∧ w.cell? ⟨(ad.add (k * 2)).block, (ad.add (k * 2)).off + 1, none⟩ = some (.string o.2) := by
  obtain ⟨ad, e, hB, hc⟩ := h.2.2 (by omega)
  have hl : k < l.length := by rw [h.1]; exact hk
  exact ⟨ad, l[k], e, hB, List.getElem?_eq_getElem hl, h.2.1 _ (List.getElem_mem hl), hc k hl⟩
theorem Opts.next {w w' : World} {A : Option Addr} {n : Nat} {l : List Opt} (h : Opts w w.heap.size A n l) (hb : Below w.heap.size w w') : Opts w' w'.heap.size A n l := (h.below hb).more hb.size
theorem Opts.laid {w : World} {A : Option Addr} {n : Nat} {l : List Opt} (h : Opts w w.heap.size A n l) (o : Obj) : Opts (w.alloc o) (w.alloc o).heap.size A n l := h.next ((Below.refl _ w).alloc (Nat.le_refl _) o)
theorem opts_nil (w : World) (B : Nat) : Opts w B none 0 [] := ⟨rfl, (fun _ h => by cases h), (fun h => absurd h (Nat.lt_irrefl _))⟩
theorem opts_own {w : World} {base n : Nat} {e : TypeId} {v : Value} {l : List Opt} (h : w.ownsRow base e 2 v n (optsV l)) (hz : ∀ o ∈ l, o.2.size ≤ 140737488351232) :
    ∃ A c, v = .slice A n c ∧ Opts w w.heap.size A n l := by
  have hl : l.length = n := by have := h.1; rw [optsV_length] at this; omega
  rcases h.2 with ⟨rfl, rfl⟩ | ⟨g, cap, cur, rfl, hg, hh, _⟩
  · exact ⟨none, 0, rfl, hl, hz, fun h0 => absurd h0 (by omega)⟩
  · have hlt : g < w.heap.size := (Array.getElem?_eq_some_iff.1 hh).1
    refine ⟨some ⟨g, 0, none⟩, cap, rfl, hl, hz, fun _ => ⟨_, rfl, hlt, fun j hj => ?_⟩⟩
    have hv := optsV_at l j hj
    have c0 := h.cells (g := g) rfl (j * 2) _ hv.1
    have c1 := h.cells (g := g) rfl (j * 2 + 1) _ hv.2
    refine ⟨c0, ?_⟩
    rw [← add_add] at c1
    exact c1
/-- The cells, one by one. -/
theorem opts_cells {w : World} {B n : Nat} {ad : Addr} {l : List Opt} (h : Opts w B (some ad) n l) : ∀ j u, (optsV l)[j]? = some u → w.cell? (ad.add j) = some u := by
  intro j u hu
  have hj : j / 2 < l.length := by
    have := (List.getElem?_eq_some_iff.1 hu).1
    rw [optsV_length] at this
    omega
  obtain ⟨ad', e, _, hc⟩ := h.2.2 (by have := h.1; omega)
  cases e
  obtain ⟨c0, c1⟩ := hc _ hj
  obtain ⟨v0, v1⟩ := optsV_at l _ hj
  rcases Nat.mod_two_eq_zero_or_one j with hm | hm
  · rw [show j / 2 * 2 = j by omega] at v0 c0
    rw [c0]; rw [v0] at hu; exact hu
  · rw [show j / 2 * 2 + 1 = j by omega] at v1
    rw [v1] at hu
    rw [← hu, ← c1, show j = j / 2 * 2 + 1 by omega, ← add_add]
    rw [show (j / 2 * 2 + 1) / 2 * 2 = j / 2 * 2 by omega]
    rfl
theorem all_mem {H : Type} {P : Program} {e : TypeId} : ∀ {l : List (DataW H)} {d : DataW H}, d ∈ l → ∀ n ∈ d.weights P e, n ∈ DataW.weightsAll P e l
  | x :: l, d, hd, n, hn => by
    rw [DataW.weightsAll, List.mem_append]
    rcases List.mem_cons.1 hd with rfl | hd
    · exact .inl hn
    · exact .inr (all_mem hd n hn)
theorem take_one {l : List Value} {i : Nat} {v : Value} (h : l[i]? = some v) : (l.drop i).take 1 = [v] := by
  obtain ⟨hi, rfl⟩ := List.getElem?_eq_some_iff.1 h
  rw [List.drop_eq_getElem_cons hi]
  rfl
theorem u8_of {z : Int} (h0 : 0 ≤ z) (h : z ≤ 255) : ∃ c : UInt8, z = (c.toNat : Int) :=
  ⟨UInt8.ofNat z.toNat, by rw [UInt8.toNat_ofNat']; omega⟩
theorem opts_of {H : Type} {enc : TypeId × Value → H} {P : Program} {W : World} {base : Nat} {t e : TypeId} {f0 f1 : Field} {v : Value} {d : DataW H} {p : List MemPlace} (ht : P.underlying t = some (.slice e)) (he : P.underlying e = some (.struct #[f0, f1]))
    (hone : oneCellFields P #[f0, f1] = true) (hC : P.cellsOf e = 2) (u0 : P.underlying f0.type = some (.int .u8)) (u1 : P.underlying f1.type = some .string)
    (hv : Value.okWide P W .any base t v) (h : DataW.Trod enc P W 0 (fun _ => true) true t v d p) (hsz : ∀ n ∈ d.weights P t, n ≤ reachBytes) : ∃ A n c, v = .slice A n c ∧ n ≤ maxLen ∧ (A = none → c = 0) ∧ ∃ l, Opts W W.heap.size A n l := by
  obtain ⟨a0, len, cap, rfl⟩ := okWide_slice ht hv
  obtain ⟨fuel, hf⟩ := h
  rcases open_slice ht hf with ⟨hcs, hx⟩ | ⟨a, len', cap', m, n, D, Pl, hcs, _, hl, hm, hmm, hx, hi⟩
  · simp [Value.cells] at hcs
    obtain ⟨rfl, rfl, rfl⟩ := hcs
    exact ⟨none, 0, 0, rfl, by simp [maxLen], (fun _ => rfl), [], opts_nil _ _⟩
  · simp [Value.cells] at hcs
    obtain ⟨rfl, rfl, rfl⟩ := hcs
    refine ⟨some a, len, cap, rfl, by omega, (fun h => by cases h), ?_⟩
    have key1 : ∀ j, j < len → ∃ o : Opt, a.block < W.heap.size ∧ o.2.size ≤ 140737488351232 ∧ W.cell? (a.add (j * 2)) = some (.int .u8 o.1.toNat) ∧ W.cell? ((a.add (j * 2)).add 1) = some (.string o.2) := by
      intro j hj
      have hjm : j < m := by rw [hmm]; simp; omega
      obtain ⟨cs, hc, htr⟩ := hi j hjm
      rw [hC] at hc
      obtain ⟨_, hcl, hat⟩ := World.cells?_some hc
      obtain ⟨xs, n', _, hD, _, hxl, hg⟩ := DataW.trod_struct he htr
      have key : ∀ (i : Nat) (f : Field), (#[f0, f1] : Array Field)[i]? = some f → i < 2 → ∃ u y, cs[i]? = some u ∧ xs[i]? = some y ∧ DataW.trod enc P W 0 (fun _ => true) true n' f.type [u] = some y ∧ W.cell? ((a.add (j * 2)).add i) = some u := by
        intro i f hfi hi5
        obtain ⟨ho, hk⟩ := hone_of hone i f hfi
        have hu : cs[i]? = some (cs[i]'(by omega)) := List.getElem?_eq_getElem (by omega)
        have hy : xs[i]? = some (xs[i]'(by simp at hxl; omega)) := List.getElem?_eq_getElem (by simp at hxl; omega)
        have h1 := hg i f hfi
        rw [ho, hk, take_one hu] at h1
        exact ⟨_, _, hu, hy, h1.trans hy, (hat i hi5).trans hu⟩
      obtain ⟨v0, y0, _, e0, t0, k0⟩ := key 0 f0 rfl (by omega)
      obtain ⟨v1, y1, _, e1, t1, k1⟩ := key 1 f1 rfl (by omega)
      obtain ⟨z, q0, _, w0⟩ := DataW.trod_int u0 t0
      obtain ⟨S, q1, r1, _⟩ := DataW.trod_string u1 t1
      have b0 := bounds_u8 w0
      obtain ⟨c, rfl⟩ := u8_of (z := z) (by omega) (by omega)
      cases q0; cases q1
      have hblk : a.block < W.heap.size := by
        have := World.block_lt_of_cell? W _ k0
        rwa [Oct.block_add, Oct.block_add] at this
      refine ⟨(c, S), hblk, ?_, by rw [add_add] at k0; exact k0, k1⟩
      have hd : d = .slice ((List.range len).map D) ((List.range (m - len)).map fun j => D (len + j)) := congrArg Prod.fst hx
      have hmem : D j ∈ (List.range len).map D := List.mem_map.2 ⟨j, List.mem_range.2 hj, rfl⟩
      have hDj : D j = .agg (xs.map (·.1)) := congrArg Prod.fst hD
      have hw : S.data.toList.length ∈ (D j).weights P e := by
        rw [hDj]
        unfold DataW.weights
        rw [he]
        refine DataW.weights_mem_each (j := 1) (t := f1.type) rfl (d := .lit (.string S.data.toList)) ?_ _ ?_
        · rw [List.getElem?_map, e1, r1]; rfl
        · unfold DataW.weights; simp
      have h2 := hsz _ (by
        rw [hd]
        unfold DataW.weights
        rw [ht]
        exact List.mem_cons.2 (.inr (List.mem_append.2 (.inl (all_mem hmem _ hw)))))
      rw [Array.length_toList] at h2
      exact h2
    obtain ⟨f, hf⟩ := choose_lt (α := Opt) key1
    refine ⟨(List.range len).map f, by simp, fun o ho => ?_, fun h0 => ⟨a, rfl, (hf 0 h0).1, fun j hj => ?_⟩⟩
    · obtain ⟨j, hj, rfl⟩ := List.mem_map.1 ho
      exact (hf j (List.mem_range.1 hj)).2.1
    · have hj' : j < len := by simpa using hj
      have := (hf j hj').2.2
      simp only [List.getElem_map, List.getElem_range]
      exact this
end Go.Proofs.YtpfbknbloeilmaaDoor.Opt
