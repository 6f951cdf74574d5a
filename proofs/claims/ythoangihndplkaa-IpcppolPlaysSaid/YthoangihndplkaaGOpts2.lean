/- Put together: Opts2, OptsSt. -/
import Derived.Test.YthoangihndplkaaGOpts

/- A row of rows of options among the arguments. Of no program. -/
namespace Go.Proofs.Ythoangihndplkaa.Opt
open Go.ChangeShapes Go.WideShapes Go.ChangeAt Go.RowKit Go.Joins Go.Deep Go.Proofs.Ythoangihndplkaa.Oct

/-- A row of options, told by its cells. -/
theorem opts_cs {H : Type} {enc : TypeId × Value → H} {P : Program} {W : World} {t e : TypeId} {f0 f1 : Field} {fuel : Nat} {cs0 : List Value} {d : DataW H} {p : List MemPlace} (ht : P.underlying t = some (.slice e)) (he : P.underlying e = some (.struct #[f0, f1]))
    (hone : oneCellFields P #[f0, f1] = true) (hC : P.cellsOf e = 2) (u0 : P.underlying f0.type = some (.int .u8)) (u1 : P.underlying f1.type = some .string)
    (hf : DataW.trod enc P W 0 (fun _ => true) true fuel t cs0 = some (d, p)) (hsz : ∀ n ∈ d.weights P t, n ≤ reachBytes) : ∃ A n c, cs0 = [.slice A n c] ∧ n ≤ maxLen ∧ (A = none → c = 0) ∧ ∃ l, Opts W W.heap.size A n l := by
  rcases open_slice ht hf with ⟨hcs, hx⟩ | ⟨a, len, cap, m, n, D, Pl, hcs, _, hl, hm, hmm, hx, hi⟩
  · subst hcs
    exact ⟨none, 0, 0, rfl, by simp [maxLen], (fun _ => rfl), [], opts_nil _ _⟩
  · subst hcs
    refine ⟨some a, len, cap, rfl, by omega, (fun h => by cases h), ?_⟩
    have key1 : ∀ j, j < len → ∃ o : Opt, a.block < W.heap.size ∧ o.2.size ≤ 140737488351232 ∧ W.cell? (a.add (j * 2)) = some (.int .u8 o.1.toNat) ∧ W.cell? ((a.add (j * 2)).add 1) = some (.string o.2) := by
      intro j hj
      have hjm : j < m := by rw [hmm]; simp; omega
      obtain ⟨cs, hc, htr⟩ := hi j hjm
      rw [hC] at hc
      obtain ⟨_, hcl, hat⟩ := World.cells?_some hc
      obtain ⟨xs, n', _, hD, _, hxl, hg⟩ := DataW.trod_struct he htr
      have key : ∀ (i : Nat) (f : Field), (#[f0, f1] : Array Field)[i]? = some f → i < 2 → ∃ u y, cs[i]? = some u ∧ xs[i]? = some y ∧ DataW.trod enc P W 0 (fun _ => true) true n' f.type [u] = some y ∧ W.cell? ((a.add (j * 2)).add i) = some u := by
        intro i f hfi hi5
        obtain ⟨ho, hk⟩ := hone_of hone i f hfi
        have hu : cs[i]? = some (cs[i]'(by omega)) := List.getElem?_eq_getElem (by omega)
        have hy : xs[i]? = some (xs[i]'(by simp at hxl; omega)) := List.getElem?_eq_getElem (by simp at hxl; omega)
        have h1 := hg i f hfi
        rw [ho, hk, take_one hu] at h1
        exact ⟨_, _, hu, hy, h1.trans hy, (hat i hi5).trans hu⟩
      obtain ⟨v0, y0, _, e0, t0, k0⟩ := key 0 f0 rfl (by omega)
      obtain ⟨v1, y1, _, e1, t1, k1⟩ := key 1 f1 rfl (by omega)
      obtain ⟨z, q0, _, w0⟩ := DataW.trod_int u0 t0
      obtain ⟨S, q1, r1, _⟩ := DataW.trod_string u1 t1
      have b0 := bounds_u8 w0
      obtain ⟨c, rfl⟩ := u8_of (z := z) (by omega) (by omega)
      cases q0; cases q1
      have hblk : a.block < W.heap.size := by
        have := World.block_lt_of_cell? W _ k0
        rwa [Oct.block_add, Oct.block_add] at this
      refine ⟨(c, S), hblk, ?_, by rw [add_add] at k0; exact k0, k1⟩
      have hd : d = .slice ((List.range len).map D) ((List.range (m - len)).map fun j => D (len + j)) := congrArg Prod.fst hx
      have hmem : D j ∈ (List.range len).map D := List.mem_map.2 ⟨j, List.mem_range.2 hj, rfl⟩
      have hDj : D j = .agg (xs.map (·.1)) := congrArg Prod.fst hD
      have hw : S.data.toList.length ∈ (D j).weights P e := by
        rw [hDj]
        unfold DataW.weights
        rw [he]
        refine DataW.weights_mem_each (j := 1) (t := f1.type) rfl (d := .lit (.string S.data.toList)) ?_ _ ?_
        · rw [List.getElem?_map, e1, r1]; rfl
        · unfold DataW.weights; simp
      have h2 := hsz _ (by
        rw [hd]
        unfold DataW.weights
        rw [ht]
        exact List.mem_cons.2 (.inr (List.mem_append.2 (.inl (all_mem hmem _ hw)))))
      rw [Array.length_toList] at h2
      exact h2
    obtain ⟨f, hf⟩ := choose_lt (α := Opt) key1
    refine ⟨(List.range len).map f, by simp, fun o ho => ?_, fun h0 => ⟨a, rfl, (hf 0 h0).1, fun j hj => ?_⟩⟩
    · obtain ⟨j, hj, rfl⟩ := List.mem_map.1 ho
      exact (hf j (List.mem_range.1 hj)).2.1
    · have hj' : j < len := by simpa using hj
      have := (hf j hj').2.2
      simp only [List.getElem_map, List.getElem_range]
      exact this
/-- The slice '.slice A n c' holds the rows ls, in blocks below B. -/
def Rows2 (w : World) (B : Nat) (A : Option Addr) (n : Nat) (ls : List (List Opt)) : Prop :=
  ls.length = n ∧ (0 < n → ∃ ad, A = some ad ∧ ad.block < B ∧ ∀ j (h : j < ls.length), ∃ A' c', w.cell? (ad.add j) = some (.slice A' ls[j].length c') ∧ Opts w B A' ls[j].length ls[j] ∧ ls[j].length ≤ maxLen ∧ (A' = none → c' = 0))
theorem Rows2.below {w w' : World} {B : Nat} {A : Option Addr} {n : Nat} {ls : List (List Opt)} (h : Rows2 w B A n ls) (hb : Below B w w') : Rows2 w' B A n ls :=
  ⟨h.1, fun hn => by
    obtain ⟨ad, e, hB, hc⟩ := h.2 hn
    refine ⟨ad, e, hB, fun j hj => ?_⟩
    obtain ⟨A', c', h1, h2, h3, h4⟩ := hc j hj
    exact ⟨A', c', (hb.cell (by rw [Oct.block_add]; exact hB)).trans h1, h2.below hb, h3, h4⟩⟩
theorem Rows2.at_ {w : World} {B : Nat} {A : Option Addr} {n k : Nat} {ls : List (List Opt)} (h : Rows2 w B A n ls) (hk : k < n) :
    ∃ ad l A' c', A = some ad ∧ ad.block < B ∧ ls[k]? = some l ∧ w.cell? (ad.add k) = some (.slice A' l.length c') ∧ Opts w B A' l.length l ∧ l.length ≤ maxLen ∧ (A' = none → c' = 0) := by
  obtain ⟨ad, e, hB, hc⟩ := h.2 (by omega)
  have hl : k < ls.length := by rw [h.1]; exact hk
  obtain ⟨A', c', h1, h2, h3, h4⟩ := hc k hl
  exact ⟨ad, ls[k], A', c', e, hB, List.getElem?_eq_getElem hl, h1, h2, h3, h4⟩
theorem rows2_of {H : Type} {enc : TypeId × Value → H} {P : Program} {W : World} {base : Nat} {t e eo : TypeId} {f0 f1 : Field} {v : Value} {d : DataW H} {p : List MemPlace} (ht : P.underlying t = some (.slice e)) (he : P.underlying e = some (.slice eo)) (hCe : P.cellsOf e = 1) (heo : P.underlying eo = some (.struct #[f0, f1]))
    (hone : oneCellFields P #[f0, f1] = true) (hC : P.cellsOf eo = 2) (u0 : P.underlying f0.type = some (.int .u8)) (u1 : P.underlying f1.type = some .string)
    (hv : Value.okWide P W .any base t v) (h : DataW.Trod enc P W 0 (fun _ => true) true t v d p) (hsz : ∀ n ∈ d.weights P t, n ≤ reachBytes) : ∃ A n c, v = .slice A n c ∧ n ≤ maxLen ∧ ∃ ls, Rows2 W W.heap.size A n ls := by
  obtain ⟨a0, len, cap, rfl⟩ := okWide_slice ht hv
  obtain ⟨fuel, hf⟩ := h
  rcases open_slice ht hf with ⟨hcs, hx⟩ | ⟨a, len', cap', m, n, D, Pl, hcs, _, hl, hm, hmm, hx, hi⟩
  · simp [Value.cells] at hcs
    obtain ⟨rfl, rfl, rfl⟩ := hcs
    exact ⟨none, 0, 0, rfl, by simp [maxLen], [], rfl, fun h => absurd h (Nat.lt_irrefl _)⟩
  · simp [Value.cells] at hcs
    obtain ⟨rfl, rfl, rfl⟩ := hcs
    refine ⟨some a, len, cap, rfl, by omega, ?_⟩
    have hd : d = .slice ((List.range len).map D) ((List.range (m - len)).map fun j => D (len + j)) := congrArg Prod.fst hx
    have key1 : ∀ j, j < len → ∃ l : List Opt, a.block < W.heap.size ∧ ∃ A' c', W.cell? (a.add j) = some (.slice A' l.length c') ∧ Opts W W.heap.size A' l.length l ∧ l.length ≤ maxLen ∧ (A' = none → c' = 0) := by
      intro j hj
      have hjm : j < m := by rw [hmm]; simp; omega
      obtain ⟨cs, hc, htr⟩ := hi j hjm
      rw [hCe, Nat.mul_one] at hc
      obtain ⟨_, hcl, hat⟩ := World.cells?_some hc
      have hmem : D j ∈ (List.range len).map D := List.mem_map.2 ⟨j, List.mem_range.2 hj, rfl⟩
      obtain ⟨A', n', c', rfl, h1, h2, l, h3⟩ := opts_cs he heo hone hC u0 u1 htr (fun w hw => hsz w (by
        rw [hd]
        unfold DataW.weights
        rw [ht]
        exact List.mem_cons.2 (.inr (List.mem_append.2 (.inl (all_mem hmem _ hw))))))
      have k0 : W.cell? (a.add j) = some (.slice A' n' c') := by
        have := hat 0 (by omega)
        rwa [show (a.add j).add 0 = a.add j from by unfold Addr.add; simp] at this
      have hblk : a.block < W.heap.size := by
        have := World.block_lt_of_cell? W _ k0
        rwa [Oct.block_add] at this
      have hn := h3.1
      subst hn
      exact ⟨l, hblk, A', c', k0, h3, h1, h2⟩
    obtain ⟨f, hf⟩ := choose_lt (α := List Opt) key1
    refine ⟨(List.range len).map f, by simp, fun h0 => ⟨a, rfl, (hf 0 h0).1, fun j hj => ?_⟩⟩
    have hj' : j < len := by simpa using hj
    have := (hf j hj').2
    simp only [List.getElem_map, List.getElem_range]
    exact this
end Go.Proofs.Ythoangihndplkaa.Opt

/- A row of structs of four cells, the second of which is a row of options, among the arguments. Of no program. -/
namespace Go.Proofs.Ythoangihndplkaa.Opt
open Go.ChangeShapes Go.WideShapes Go.ChangeAt Go.RowKit Go.Joins Go.Deep Go.Proofs.Ythoangihndplkaa.Oct

/-- A step: what is done, a row, a bool, a byte. -/
structure Stp where
  d : Int
  l : List Opt
  o : Bool
  n : UInt8
deriving Inhabited
theorem cap_cs {H : Type} {enc : TypeId × Value → H} {P : Program} {W : World} {t e : TypeId} {fuel n c : Nat} {A : Option Addr} {d : DataW H} {p : List MemPlace} (ht : P.underlying t = some (.slice e)) (hf : DataW.trod enc P W 0 (fun _ => true) true fuel t [.slice A n c] = some (d, p)) : n ≤ c := by
  rcases open_slice ht hf with ⟨hcs, hx⟩ | ⟨a, len', cap', m, k, D, Pl, hcs, _, hl, hm, hmm, hx, hi⟩
  · simp at hcs
    obtain ⟨rfl, rfl, rfl⟩ := hcs
    exact Nat.le_refl _
  · simp at hcs
    obtain ⟨rfl, rfl, rfl⟩ := hcs
    omega
/-- What lies at a step. -/
def StpAt (w : World) (B : Nat) (a : Addr) (s : Stp) : Prop := ∃ A' c', w.cell? a = some (.int .i64 s.d) ∧ w.cell? (a.add 1) = some (.slice A' s.l.length c') ∧ w.cell? (a.add 2) = some (.bool s.o) ∧ w.cell? (a.add 3) = some (.int .u8 s.n.toNat) ∧ Opts w B A' s.l.length s.l ∧ s.l.length ≤ maxLen ∧ s.l.length ≤ c' ∧ (A' = none → c' = 0)
/-- The slice '.slice A n c' holds the steps ss, in blocks below B. -/
def StRow (w : World) (B : Nat) (A : Option Addr) (n : Nat) (ss : List Stp) : Prop :=
  ss.length = n ∧ (0 < n → ∃ ad, A = some ad ∧ ad.block < B ∧ ∀ j (h : j < ss.length), StpAt w B (ad.add (j * 4)) ss[j])
theorem StpAt.below {w w' : World} {B : Nat} {a : Addr} {s : Stp} (h : StpAt w B a s) (hb : Below B w w') (ha : a.block < B) : StpAt w' B a s := by
  obtain ⟨A', c', h0, h1, h2, h3, h4, h5⟩ := h
  exact ⟨A', c', (hb.cell ha).trans h0, (hb.cell (by rw [Oct.block_add]; exact ha)).trans h1, (hb.cell (by rw [Oct.block_add]; exact ha)).trans h2, (hb.cell (by rw [Oct.block_add]; exact ha)).trans h3, h4.below hb, h5⟩
theorem StRow.below {w w' : World} {B : Nat} {A : Option Addr} {n : Nat} {ss : List Stp} (h : StRow w B A n ss) (hb : Below B w w') : StRow w' B A n ss :=
  ⟨h.1, fun hn => by
    obtain ⟨ad, e, hB, hc⟩ := h.2 hn
    exact ⟨ad, e, hB, fun j hj => (hc j hj).below hb (by rw [Oct.block_add]; exact hB)⟩⟩
theorem StRow.at_ {w : World} {B : Nat} {A : Option Addr} {n k : Nat} {ss : List Stp} (h : StRow w B A n ss) (hk : k < n) : ∃ ad s, A = some ad ∧ ad.block < B ∧ ss[k]? = some s ∧ StpAt w B (ad.add (k * 4)) s := by
  obtain ⟨ad, e, hB, hc⟩ := h.2 (by omega)
  have hl : k < ss.length := by rw [h.1]; exact hk
  exact ⟨ad, ss[k], e, hB, List.getElem?_eq_getElem hl, hc k hl⟩
theorem steps_of {H : Type} {enc : TypeId × Value → H} {P : Program} {W : World} {base : Nat} {t e eo : TypeId} {g0 g1 g2 g3 f0 f1 : Field} {v : Value} {d : DataW H} {p : List MemPlace} (ht : P.underlying t = some (.slice e)) (he : P.underlying e = some (.struct #[g0, g1, g2, g3]))
    (hone4 : oneCellFields P #[g0, g1, g2, g3] = true) (hC4 : P.cellsOf e = 4) (v0 : P.underlying g0.type = some (.int .i64)) (v1 : P.underlying g1.type = some (.slice eo)) (v2 : P.underlying g2.type = some .bool) (v3 : P.underlying g3.type = some (.int .u8))
    (heo : P.underlying eo = some (.struct #[f0, f1])) (hone : oneCellFields P #[f0, f1] = true) (hC : P.cellsOf eo = 2) (u0 : P.underlying f0.type = some (.int .u8)) (u1 : P.underlying f1.type = some .string)
    (hv : Value.okWide P W .any base t v) (h : DataW.Trod enc P W 0 (fun _ => true) true t v d p) (hsz : ∀ n ∈ d.weights P t, n ≤ reachBytes) : ∃ A n c, v = .slice A n c ∧ n ≤ maxLen ∧ ∃ ss, StRow W W.heap.size A n ss := by
  obtain ⟨a0, len, cap, rfl⟩ := okWide_slice ht hv
  obtain ⟨fuel, hf⟩ := h
  rcases open_slice ht hf with ⟨hcs, hx⟩ | ⟨a, len', cap', m, n, D, Pl, hcs, _, hl, hm, hmm, hx, hi⟩
  · simp [Value.cells] at hcs
    obtain ⟨rfl, rfl, rfl⟩ := hcs
    exact ⟨none, 0, 0, rfl, by simp [maxLen], [], rfl, fun h => absurd h (Nat.lt_irrefl _)⟩
  · simp [Value.cells] at hcs
    obtain ⟨rfl, rfl, rfl⟩ := hcs
    refine ⟨some a, len, cap, rfl, by omega, ?_⟩
    have hd : d = .slice ((List.range len).map D) ((List.range (m - len)).map fun j => D (len + j)) := congrArg Prod.fst hx
    have key1 : ∀ j, j < len → ∃ s : Stp, a.block < W.heap.size ∧ StpAt W W.heap.size (a.add (j * 4)) s := by
      intro j hj
      have hjm : j < m := by rw [hmm]; simp; omega
      obtain ⟨cs, hc, htr⟩ := hi j hjm
      rw [hC4] at hc
      obtain ⟨_, hcl, hat⟩ := World.cells?_some hc
      obtain ⟨xs, n', _, hD, _, hxl, hg⟩ := DataW.trod_struct he htr
      have hmem : D j ∈ (List.range len).map D := List.mem_map.2 ⟨j, List.mem_range.2 hj, rfl⟩
      have hDj : D j = .agg (xs.map (·.1)) := congrArg Prod.fst hD
      have key : ∀ (i : Nat) (f : Field), (#[g0, g1, g2, g3] : Array Field)[i]? = some f → i < 4 → ∃ u y, cs[i]? = some u ∧ xs[i]? = some y ∧ DataW.trod enc P W 0 (fun _ => true) true n' f.type [u] = some y ∧ W.cell? ((a.add (j * 4)).add i) = some u := by
        intro i f hfi hi5
        obtain ⟨ho, hk⟩ := hone_of hone4 i f hfi
        have hu : cs[i]? = some (cs[i]'(by omega)) := List.getElem?_eq_getElem (by omega)
        have hy : xs[i]? = some (xs[i]'(by simp at hxl; omega)) := List.getElem?_eq_getElem (by simp at hxl; omega)
        have h1 := hg i f hfi
        rw [ho, hk, take_one hu] at h1
        exact ⟨_, _, hu, hy, h1.trans hy, (hat i hi5).trans hu⟩
      obtain ⟨x0, y0, _, e0, t0, k0⟩ := key 0 g0 rfl (by omega)
      obtain ⟨x1, y1, _, e1, t1, k1⟩ := key 1 g1 rfl (by omega)
      obtain ⟨x2, y2, _, e2, t2, k2⟩ := key 2 g2 rfl (by omega)
      obtain ⟨x3, y3, _, e3, t3, k3⟩ := key 3 g3 rfl (by omega)
      obtain ⟨z0, q0, _, _⟩ := DataW.trod_int v0 t0
      obtain ⟨z2, q2, _⟩ := DataW.trod_bool v2 t2
      obtain ⟨z3, q3, _, w3⟩ := DataW.trod_int v3 t3
      have b3 := bounds_u8 w3
      obtain ⟨c3, rfl⟩ := u8_of (z := z3) (by omega) (by omega)
      obtain ⟨d1, p1⟩ := y1
      obtain ⟨A', n1, c', q1, h1, h2, l, h3⟩ := opts_cs v1 heo hone hC u0 u1 t1 (fun w hw => hsz w (by
        rw [hd]
        unfold DataW.weights
        rw [ht]
        refine List.mem_cons.2 (.inr (List.mem_append.2 (.inl (all_mem hmem _ ?_))))
        rw [hDj]
        unfold DataW.weights
        rw [he]
        exact DataW.weights_mem_each (j := 1) (t := g1.type) rfl (d := d1) (by rw [List.getElem?_map, e1]; rfl) _ hw))
      rw [q1] at t1
      have h4 := cap_cs v1 t1
      cases q0; cases q1; cases q2; cases q3
      have hblk : a.block < W.heap.size := by
        have := World.block_lt_of_cell? W _ k0
        rwa [Oct.block_add, Oct.block_add] at this
      have hn := h3.1
      subst hn
      exact ⟨⟨z0, l, z2, c3⟩, hblk, A', c', by rwa [show ((a.add (j * 4)).add 0) = a.add (j * 4) from by unfold Addr.add; simp] at k0, k1, k2, k3, h3, h1, h4, h2⟩
    obtain ⟨f, hf⟩ := choose_lt (α := Stp) key1
    refine ⟨(List.range len).map f, by simp, fun h0 => ⟨a, rfl, (hf 0 h0).1, fun j hj => ?_⟩⟩
    have hj' : j < len := by simpa using hj
    have := (hf j hj').2
    simp only [List.getElem_map, List.getElem_range]
    exact this
end Go.Proofs.Ythoangihndplkaa.Opt
