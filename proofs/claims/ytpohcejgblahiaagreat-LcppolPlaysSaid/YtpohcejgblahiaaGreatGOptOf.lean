/- Put together: OptOf, PolX, Opts2, OptsSt, OptsS5. -/
import Derived.Test.YtpohcejgblahiaaGreatGOpts
import Derived.WalkKit
import Derived.ProofKit
import Derived.RowKit
import Derived.Lib.SmallJoins
import Derived.SizedLaws

/- An option by value among the arguments; numbers of a kind. Of no program. -/
namespace Go.Proofs.YtpohcejgblahiaaGreat.Opt
open Go.ChangeShapes Go.WideShapes Go.ChangeAt Go.RowKit Go.Joins Go.Deep Go.Proofs.YtpohcejgblahiaaGreat.Oct

theorem u16_of {z : Int} (h : 0 ≤ z ∧ z ≤ 65535) : ∃ c : UInt16, z = (c.toNat : Int) := ⟨UInt16.ofNat z.toNat, by rw [UInt16.toNat_ofNat']; omega⟩
theorem u32_of {z : Int} (h : 0 ≤ z ∧ z ≤ 4294967295) : ∃ c : UInt32, z = (c.toNat : Int) := ⟨UInt32.ofNat z.toNat, by rw [UInt32.toNat_ofNat']; omega⟩
theorem opt_of {H : Type} {enc : TypeId × Value → H} {P : Program} {W : World} {base : Nat} {t : TypeId} {f0 f1 : Field} {v : Value} {d : DataW H} {p : List MemPlace} (ht : P.underlying t = some (.struct #[f0, f1])) (hone : oneCellFields P #[f0, f1] = true) (hC : P.cellsOf t = 2)
    (u0 : P.underlying f0.type = some (.int .u8)) (u1 : P.underlying f1.type = some .string) (hv : Value.okWide P W .any base t v) (h : DataW.Trod enc P W 0 (fun _ => true) true t v d p) (hsz : ∀ n ∈ d.weights P t, n ≤ reachBytes) :
    ∃ (c : UInt8) (s : ByteArray), v = .agg #[.int .u8 c.toNat, .string s] ∧ s.size ≤ 140737488351232 := by
  obtain ⟨c0, c1, y0, y1, m, rfl, rfl, rfl, hy0, hy1⟩ := open_agg2 ht hone hC hv h
  obtain ⟨a, e0, _, w0⟩ := DataW.trod_int u0 hy0
  obtain ⟨s, e1, r1, _⟩ := DataW.trod_string u1 hy1
  obtain ⟨c, rfl⟩ := u8_of (bounds_u8 w0).1 (bounds_u8 w0).2
  simp at e0 e1
  subst e0 e1
  refine ⟨c, s, rfl, ?_⟩
  have hw : s.data.toList.length ∈ (DataW.agg [y0.1, y1.1]).weights P t := by
    unfold DataW.weights
    rw [ht]
    refine DataW.weights_mem_each (j := 1) (t := f1.type) rfl (d := .lit (.string s.data.toList)) ?_ _ ?_
    · rw [r1]; rfl
    · unfold DataW.weights; simp
  have h2 := hsz _ hw
  rw [Array.length_toList] at h2
  exact h2
end Go.Proofs.YtpohcejgblahiaaGreat.Opt

/- A configuration among the arguments. -/
namespace Go.Proofs.YtpohcejgblahiaaGreat.Pol
open Go.ChangeShapes Go.WideShapes Go.ChangeAt Go.RowKit Go.Joins Go.Deep Go.Proofs.YtpohcejgblahiaaGreat.Oct Go.Proofs.YtpohcejgblahiaaGreat.Opt

theorem conf_of {H : Type} {enc : TypeId × Value → H} {P : Program} {W : World} {base : Nat} {t : TypeId} {f0 f1 f2 f3 f4 f5 f6 f7 f8 f9 : Field} {v : Value} {d : DataW H} {p : List MemPlace} (ht : P.underlying t = some (.struct #[f0, f1, f2, f3, f4, f5, f6, f7, f8, f9])) (hone : oneCellFields P #[f0, f1, f2, f3, f4, f5, f6, f7, f8, f9] = true) (hC : P.cellsOf t = 10)
    (u0 : P.underlying f0.type = some (.int .u16)) (u1 : P.underlying f1.type = some .bool) (u2 : P.underlying f2.type = some (.int .u32)) (u3 : P.underlying f3.type = some (.int .u8)) (u4 : P.underlying f4.type = some (.int .u8)) (u5 : P.underlying f5.type = some (.int .u8)) (u6 : P.underlying f6.type = some .bool) (u7 : P.underlying f7.type = some .bool) (u8 : P.underlying f8.type = some .bool) (u9 : P.underlying f9.type = some (.int .i64)) (hv : Value.okWide P W .any base t v) (h : DataW.Trod enc P W 0 (fun _ => true) true t v d p) : ∃ x : Conf, v = .agg (cv x).toArray := by
  obtain ⟨cs, rfl, hsz⟩ := okWide_struct ht hv
  obtain ⟨c0, c1, c2, c3, c4, c5, c6, c7, c8, c9, rfl⟩ : ∃ c0 c1 c2 c3 c4 c5 c6 c7 c8 c9, cs = #[c0, c1, c2, c3, c4, c5, c6, c7, c8, c9] := by
    have h2 := hsz.trans hC
    obtain ⟨l⟩ := cs
    match l, h2 with
    | [c0, c1, c2, c3, c4, c5, c6, c7, c8, c9], _ => exact ⟨c0, c1, c2, c3, c4, c5, c6, c7, c8, c9, rfl⟩
  obtain ⟨fuel, hf⟩ := h
  obtain ⟨xs, n, _, _, _, hxl, hg⟩ := DataW.trod_struct ht hf
  have key : ∀ (i : Nat) (f : Field) (u : Value), (#[f0, f1, f2, f3, f4, f5, f6, f7, f8, f9] : Array Field)[i]? = some f → [c0, c1, c2, c3, c4, c5, c6, c7, c8, c9][i]? = some u → ∃ y, DataW.trod enc P W 0 (fun _ => true) true n f.type [u] = some y := by
    intro i f u hfi hu
    obtain ⟨ho, hk⟩ := hone_of hone i f hfi
    have hi : i < 10 := (List.getElem?_eq_some_iff.1 hu).1
    have h1 := hg i f hfi
    have hc : ((Value.agg #[c0, c1, c2, c3, c4, c5, c6, c7, c8, c9]).cells.toList.drop i).take 1 = [u] := by rw [show (Value.agg #[c0, c1, c2, c3, c4, c5, c6, c7, c8, c9]).cells.toList = [c0, c1, c2, c3, c4, c5, c6, c7, c8, c9] by simp [Value.cells]]; exact take_one (l := [c0, c1, c2, c3, c4, c5, c6, c7, c8, c9]) hu
    rw [ho, hk, hc] at h1
    have hl : i < xs.length := by rw [hxl]; exact hi
    exact ⟨_, h1.trans (List.getElem?_eq_getElem hl)⟩
  obtain ⟨y0, t0⟩ := key 0 f0 c0 rfl rfl
  obtain ⟨z0, e0, _, w0⟩ := DataW.trod_int u0 t0
  obtain ⟨y1, t1⟩ := key 1 f1 c1 rfl rfl
  obtain ⟨b1, e1, _⟩ := DataW.trod_bool u1 t1
  obtain ⟨y2, t2⟩ := key 2 f2 c2 rfl rfl
  obtain ⟨z2, e2, _, w2⟩ := DataW.trod_int u2 t2
  obtain ⟨y3, t3⟩ := key 3 f3 c3 rfl rfl
  obtain ⟨z3, e3, _, w3⟩ := DataW.trod_int u3 t3
  obtain ⟨y4, t4⟩ := key 4 f4 c4 rfl rfl
  obtain ⟨z4, e4, _, w4⟩ := DataW.trod_int u4 t4
  obtain ⟨y5, t5⟩ := key 5 f5 c5 rfl rfl
  obtain ⟨z5, e5, _, w5⟩ := DataW.trod_int u5 t5
  obtain ⟨y6, t6⟩ := key 6 f6 c6 rfl rfl
  obtain ⟨b6, e6, _⟩ := DataW.trod_bool u6 t6
  obtain ⟨y7, t7⟩ := key 7 f7 c7 rfl rfl
  obtain ⟨b7, e7, _⟩ := DataW.trod_bool u7 t7
  obtain ⟨y8, t8⟩ := key 8 f8 c8 rfl rfl
  obtain ⟨b8, e8, _⟩ := DataW.trod_bool u8 t8
  obtain ⟨y9, t9⟩ := key 9 f9 c9 rfl rfl
  obtain ⟨z9, e9, _, w9⟩ := DataW.trod_int u9 t9
  obtain ⟨b0, rfl⟩ := u16_of (bounds_u16 w0)
  obtain ⟨b2, rfl⟩ := u32_of (bounds_u32 w2)
  obtain ⟨b3, rfl⟩ := u8_of (bounds_u8 w3).1 (bounds_u8 w3).2
  obtain ⟨b4, rfl⟩ := u8_of (bounds_u8 w4).1 (bounds_u8 w4).2
  obtain ⟨b5, rfl⟩ := u8_of (bounds_u8 w5).1 (bounds_u8 w5).2
  simp at e0 e1 e2 e3 e4 e5 e6 e7 e8 e9
  subst e0 e1 e2 e3 e4 e5 e6 e7 e8 e9
  exact ⟨⟨b0, b1, b2, b3, b4, b5, b6, b7, b8, z9⟩, rfl⟩
end Go.Proofs.YtpohcejgblahiaaGreat.Pol

/- A row of rows of options among the arguments. Of no program. -/
namespace Go.Proofs.YtpohcejgblahiaaGreat.Opt
open Go.ChangeShapes Go.WideShapes Go.ChangeAt Go.RowKit Go.Joins Go.Deep Go.Proofs.YtpohcejgblahiaaGreat.Oct

/-- A row of options, told by its cells. -/
theorem opts_cs {H : Type} {enc : TypeId × Value → H} {P : Program} {W : World} {t e : TypeId} {f0 f1 : Field} {fuel : Nat} {cs0 : List Value} {d : DataW H} {p : List MemPlace} (ht : P.underlying t = some (.slice e)) (he : P.underlying e = some (.struct #[f0, f1]))
    (hone : oneCellFields P #[f0, f1] = true) (hC : P.cellsOf e = 2) (u0 : P.underlying f0.type = some (.int .u8)) (u1 : P.underlying f1.type = some .string)
    (hf : DataW.trod enc P W 0 (fun _ => true) true fuel t cs0 = some (d, p)) (hsz : ∀ n ∈ d.weights P t, n ≤ reachBytes) : ∃ A n c, cs0 = [.slice A n c] ∧ n ≤ maxLen ∧ (A = none → c = 0) ∧ ∃ l, Opts W W.heap.size A n l := by
  rcases open_slice ht hf with ⟨hcs, hx⟩ | ⟨a, len, cap, m, n, D, Pl, hcs, _, hl, hm, hmm, hx, hi⟩
  · subst hcs
    exact ⟨none, 0, 0, rfl, by simp [maxLen], (fun _ => rfl), [], opts_nil _ _⟩
  · subst hcs
    refine ⟨some a, len, cap, rfl, by omega, (fun h => by cases h), ?_⟩
    have key1 : ∀ j, j < len → ∃ o : Opt, a.block < W.heap.size ∧ o.2.size ≤ 140737488351232 ∧ W.cell? (a.add (j * 2)) = some (.int .u8 o.1.toNat) ∧ W.cell? ((a.add (j * 2)).add 1) = some (.string o.2) := by
      intro j hj
      have hjm : j < m := by rw [hmm]; simp; omega
      obtain ⟨cs, hc, htr⟩ := hi j hjm
      rw [hC] at hc
      obtain ⟨_, hcl, hat⟩ := World.cells?_some hc
      obtain ⟨xs, n', _, hD, _, hxl, hg⟩ := DataW.trod_struct he htr
      have key : ∀ (i : Nat) (f : Field), (#[f0, f1] : Array Field)[i]? = some f → i < 2 → ∃ u y, cs[i]? = some u ∧ xs[i]? = some y ∧ DataW.trod enc P W 0 (fun _ => true) true n' f.type [u] = some y ∧ W.cell? ((a.add (j * 2)).add i) = some u := by
        intro i f hfi hi5
        obtain ⟨ho, hk⟩ := hone_of hone i f hfi
        have hu : cs[i]? = some (cs[i]'(by omega)) := List.getElem?_eq_getElem (by omega)
        have hy : xs[i]? = some (xs[i]'(by simp at hxl; omega)) := List.getElem?_eq_getElem (by simp at hxl; omega)
        have h1 := hg i f hfi
        rw [ho, hk, take_one hu] at h1
        exact ⟨_, _, hu, hy, h1.trans hy, (hat i hi5).trans hu⟩
      obtain ⟨v0, y0, _, e0, t0, k0⟩ := key 0 f0 rfl (by omega)
      obtain ⟨v1, y1, _, e1, t1, k1⟩ := key 1 f1 rfl (by omega)
      obtain ⟨z, q0, _, w0⟩ := DataW.trod_int u0 t0
      obtain ⟨S, q1, r1, _⟩ := DataW.trod_string u1 t1
      have b0 := bounds_u8 w0
      obtain ⟨c, rfl⟩ := u8_of (z := z) (by omega) (by omega)
      cases q0; cases q1
      have hblk : a.block < W.heap.size := by
        have := World.block_lt_of_cell? W _ k0
        rwa [Oct.block_add, Oct.block_add] at this
      refine ⟨(c, S), hblk, ?_, by rw [add_add] at k0; exact k0, k1⟩
      have hd : d = .slice ((List.range len).map D) ((List.range (m - len)).map fun j => D (len + j)) := congrArg Prod.fst hx
      have hmem : D j ∈ (List.range len).map D := List.mem_map.2 ⟨j, List.mem_range.2 hj, rfl⟩
      have hDj : D j = .agg (xs.map (·.1)) := congrArg Prod.fst hD
      have hw : S.data.toList.length ∈ (D j).weights P e := by
        rw [hDj]
        unfold DataW.weights
        rw [he]
        refine DataW.weights_mem_each (j := 1) (t := f1.type) rfl (d := .lit (.string S.data.toList)) ?_ _ ?_
        · rw [List.getElem?_map, e1, r1]; rfl
        · unfold DataW.weights; simp
      have h2 := hsz _ (by
        rw [hd]
        unfold DataW.weights
        rw [ht]
        exact List.mem_cons.2 (.inr (List.mem_append.2 (.inl (all_mem hmem _ hw)))))
      rw [Array.length_toList] at h2
      exact h2
    obtain ⟨f, hf⟩ := choose_lt (α := Opt) key1
    refine ⟨(List.range len).map f, by simp, fun o ho => ?_, fun h0 => ⟨a, rfl, (hf 0 h0).1, fun j hj => ?_⟩⟩
    · obtain ⟨j, hj, rfl⟩ := List.mem_map.1 ho
      exact (hf j (List.mem_range.1 hj)).2.1
    · have hj' : j < len := by simpa using hj
      have := (hf j hj').2.2
      simp only [List.getElem_map, List.getElem_range]
      exact this
/-- The slice '.slice A n c' holds the rows ls, in blocks below B. -/
def Rows2 (w : World) (B : Nat) (A : Option Addr) (n : Nat) (ls : List (List Opt)) : Prop :=
  ls.length = n ∧ (0 < n → ∃ ad, A = some ad ∧ ad.block < B ∧ ∀ j (h : j < ls.length), ∃ A' c', w.cell? (ad.add j) = some (.slice A' ls[j].length c') ∧ Opts w B A' ls[j].length ls[j] ∧ ls[j].length ≤ maxLen ∧ (A' = none → c' = 0))
theorem Rows2.below {w w' : World} {B : Nat} {A : Option Addr} {n : Nat} {ls : List (List Opt)} (h : Rows2 w B A n ls) (hb : Below B w w') : Rows2 w' B A n ls :=
  ⟨h.1, fun hn => by
    obtain ⟨ad, e, hB, hc⟩ := h.2 hn
    refine ⟨ad, e, hB, fun j hj => ?_⟩
    obtain ⟨A', c', h1, h2, h3, h4⟩ := hc j hj
    exact ⟨A', c', (hb.cell (by rw [Oct.block_add]; exact hB)).trans h1, h2.below hb, h3, h4⟩⟩
theorem Rows2.at_ {w : World} {B : Nat} {A : Option Addr} {n k : Nat} {ls : List (List Opt)} (h : Rows2 w B A n ls) (hk : k < n) :
    ∃ ad l A' c', A = some ad ∧ ad.block < B ∧ ls[k]? = some l ∧ w.cell? (ad.add k) = some (.slice A' l.length c') ∧ Opts w B A' l.length l ∧ l.length ≤ maxLen ∧ (A' = none → c' = 0) := by
  obtain ⟨ad, e, hB, hc⟩ := h.2 (by omega)
  have hl : k < ls.length := by rw [h.1]; exact hk
  obtain ⟨A', c', h1, h2, h3, h4⟩ := hc k hl
  exact ⟨ad, ls[k], A', c', e, hB, List.getElem?_eq_getElem hl, h1, h2, h3, h4⟩
theorem rows2_of {H : Type} {enc : TypeId × Value → H} {P : Program} {W : World} {base : Nat} {t e eo : TypeId} {f0 f1 : Field} {v : Value} {d : DataW H} {p : List MemPlace} (ht : P.underlying t = some (.slice e)) (he : P.underlying e = some (.slice eo)) (hCe : P.cellsOf e = 1) (heo : P.underlying eo = some (.struct #[f0, f1]))
    (hone : oneCellFields P #[f0, f1] = true) (hC : P.cellsOf eo = 2) (u0 : P.underlying f0.type = some (.int .u8)) (u1 : P.underlying f1.type = some .string)
    (hv : Value.okWide P W .any base t v) (h : DataW.Trod enc P W 0 (fun _ => true) true t v d p) (hsz : ∀ n ∈ d.weights P t, n ≤ reachBytes) : ∃ A n c, v = .slice A n c ∧ n ≤ maxLen ∧ ∃ ls, Rows2 W W.heap.size A n ls := by
  obtain ⟨a0, len, cap, rfl⟩ := okWide_slice ht hv
  obtain ⟨fuel, hf⟩ := h
  rcases open_slice ht hf with ⟨hcs, hx⟩ | ⟨a, len', cap', m, n, D, Pl, hcs, _, hl, hm, hmm, hx, hi⟩
  · simp [Value.cells] at hcs
    obtain ⟨rfl, rfl, rfl⟩ := hcs
    exact ⟨none, 0, 0, rfl, by simp [maxLen], [], rfl, fun h => absurd h (Nat.lt_irrefl _)⟩
  · simp [Value.cells] at hcs
    obtain ⟨rfl, rfl, rfl⟩ := hcs
    refine ⟨some a, len, cap, rfl, by omega, ?_⟩
    have hd : d = .slice ((List.range len).map D) ((List.range (m - len)).map fun j => D (len + j)) := congrArg Prod.fst hx
    have key1 : ∀ j, j < len → ∃ l : List Opt, a.block < W.heap.size ∧ ∃ A' c', W.cell? (a.add j) = some (.slice A' l.length c') ∧ Opts W W.heap.size A' l.length l ∧ l.length ≤ maxLen ∧ (A' = none → c' = 0) := by
      intro j hj
      have hjm : j < m := by rw [hmm]; simp; omega
      obtain ⟨cs, hc, htr⟩ := hi j hjm
      rw [hCe, Nat.mul_one] at hc
      obtain ⟨_, hcl, hat⟩ := World.cells?_some hc
      have hmem : D j ∈ (List.range len).map D := List.mem_map.2 ⟨j, List.mem_range.2 hj, rfl⟩
      obtain ⟨A', n', c', rfl, h1, h2, l, h3⟩ := opts_cs he heo hone hC u0 u1 htr (fun w hw => hsz w (by
        rw [hd]
        unfold DataW.weights
        rw [ht]
        exact List.mem_cons.2 (.inr (List.mem_append.2 (.inl (all_mem hmem _ hw))))))
      have k0 : W.cell? (a.add j) = some (.slice A' n' c') := by
        have := hat 0 (by omega)
        rwa [show (a.add j).add 0 = a.add j from by unfold Addr.add; simp] at this
      have hblk : a.block < W.heap.size := by
        have := World.block_lt_of_cell? W _ k0
        rwa [Oct.block_add] at this
      have hn := h3.1
      subst hn
      exact ⟨l, hblk, A', c', k0, h3, h1, h2⟩
    obtain ⟨f, hf⟩ := choose_lt (α := List Opt) key1
    refine ⟨(List.range len).map f, by simp, fun h0 => ⟨a, rfl, (hf 0 h0).1, fun j hj => ?_⟩⟩
    have hj' : j < len := by simpa using hj
    have := (hf j hj').2
    simp only [List.getElem_map, List.getElem_range]
    exact this
end Go.Proofs.YtpohcejgblahiaaGreat.Opt

/- A row of structs of four cells, the second of which is a row of options, among the arguments. Of no program. -/
namespace Go.Proofs.YtpohcejgblahiaaGreat.Opt
open Go.ChangeShapes Go.WideShapes Go.ChangeAt Go.RowKit Go.Joins Go.Deep Go.Proofs.YtpohcejgblahiaaGreat.Oct

/-- A step: what is done, a row, a bool, a byte. -/
structure Stp where
  d : Int
  l : List Opt
  o : Bool
  n : UInt8
deriving Inhabited
theorem cap_cs {H : Type} {enc : TypeId × Value → H} {P : Program} {W : World} {t e : TypeId} {fuel n c : Nat} {A : Option Addr} {d : DataW H} {p : List MemPlace} (ht : P.underlying t = some (.slice e)) (hf : DataW.trod enc P W 0 (fun _ => true) true fuel t [.slice A n c] = some (d, p)) : n ≤ c := by
  rcases open_slice ht hf with ⟨hcs, hx⟩ | ⟨a, len', cap', m, k, D, Pl, hcs, _, hl, hm, hmm, hx, hi⟩
  · simp at hcs
    obtain ⟨rfl, rfl, rfl⟩ := hcs
    exact Nat.le_refl _
  · simp at hcs
    obtain ⟨rfl, rfl, rfl⟩ := hcs
    omega
/-- What lies at a step. -/
def StpAt (w : World) (B : Nat) (a : Addr) (s : Stp) : Prop := ∃ A' c', w.cell? a = some (.int .i64 s.d) ∧ w.cell? (a.add 1) = some (.slice A' s.l.length c') ∧ w.cell? (a.add 2) = some (.bool s.o) ∧ w.cell? (a.add 3) = some (.int .u8 s.n.toNat) ∧ Opts w B A' s.l.length s.l ∧ s.l.length ≤ maxLen ∧ s.l.length ≤ c' ∧ (A' = none → c' = 0)
/-- The slice '.slice A n c' holds the steps ss, in blocks below B. -/
def StRow (w : World) (B : Nat) (A : Option Addr) (n : Nat) (ss : List Stp) : Prop :=
  ss.length = n ∧ (0 < n → ∃ ad, A = some ad ∧ ad.block < B ∧ ∀ j (h : j < ss.length), StpAt w B (ad.add (j * 4)) ss[j])
theorem StpAt.below {w w' : World} {B : Nat} {a : Addr} {s : Stp} (h : StpAt w B a s) (hb : Below B w w') (ha : a.block < B) : StpAt w' B a s := by
  obtain ⟨A', c', h0, h1, h2, h3, h4, h5⟩ := h
  exact ⟨A', c', (hb.cell ha).trans h0, (hb.cell (by rw [Oct.block_add]; exact ha)).trans h1, (hb.cell (by rw [Oct.block_add]; exact ha)).trans h2, (hb.cell (by rw [Oct.block_add]; exact ha)).trans h3, h4.below hb, h5⟩
theorem StRow.below {w w' : World} {B : Nat} {A : Option Addr} {n : Nat} {ss : List Stp} (h : StRow w B A n ss) (hb : Below B w w') : StRow w' B A n ss :=
  ⟨h.1, fun hn => by
    obtain ⟨ad, e, hB, hc⟩ := h.2 hn
    exact ⟨ad, e, hB, fun j hj => (hc j hj).below hb (by rw [Oct.block_add]; exact hB)⟩⟩
theorem StRow.at_ {w : World} {B : Nat} {A : Option Addr} {n k : Nat} {ss : List Stp} (h : StRow w B A n ss) (hk : k < n) : ∃ ad s, A = some ad ∧ ad.block < B ∧ ss[k]? = some s ∧ StpAt w B (ad.add (k * 4)) s := by
  obtain ⟨ad, e, hB, hc⟩ := h.2 (by omega)
  have hl : k < ss.length := by rw [h.1]; exact hk
  exact ⟨ad, ss[k], e, hB, List.getElem?_eq_getElem hl, hc k hl⟩
theorem steps_of {H : Type} {enc : TypeId × Value → H} {P : Program} {W : World} {base : Nat} {t e eo : TypeId} {g0 g1 g2 g3 f0 f1 : Field} {v : Value} {d : DataW H} {p : List MemPlace} (ht : P.underlying t = some (.slice e)) (he : P.underlying e = some (.struct #[g0, g1, g2, g3]))
    (hone4 : oneCellFields P #[g0, g1, g2, g3] = true) (hC4 : P.cellsOf e = 4) (v0 : P.underlying g0.type = some (.int .i64)) (v1 : P.underlying g1.type = some (.slice eo)) (v2 : P.underlying g2.type = some .bool) (v3 : P.underlying g3.type = some (.int .u8))
    (heo : P.underlying eo = some (.struct #[f0, f1])) (hone : oneCellFields P #[f0, f1] = true) (hC : P.cellsOf eo = 2) (u0 : P.underlying f0.type = some (.int .u8)) (u1 : P.underlying f1.type = some .string)
    (hv : Value.okWide P W .any base t v) (h : DataW.Trod enc P W 0 (fun _ => true) true t v d p) (hsz : ∀ n ∈ d.weights P t, n ≤ reachBytes) : ∃ A n c, v = .slice A n c ∧ n ≤ maxLen ∧ ∃ ss, StRow W W.heap.size A n ss := by
  obtain ⟨a0, len, cap, rfl⟩ := okWide_slice ht hv
  obtain ⟨fuel, hf⟩ := h
  rcases open_slice ht hf with ⟨hcs, hx⟩ | ⟨a, len', cap', m, n, D, Pl, hcs, _, hl, hm, hmm, hx, hi⟩
  · simp [Value.cells] at hcs
    obtain ⟨rfl, rfl, rfl⟩ := hcs
    exact ⟨none, 0, 0, rfl, by simp [maxLen], [], rfl, fun h => absurd h (Nat.lt_irrefl _)⟩
  · simp [Value.cells] at hcs
    obtain ⟨rfl, rfl, rfl⟩ := hcs
    refine ⟨some a, len, cap, rfl, by omega, ?_⟩
    have hd : d = .slice ((List.range len).map D) ((List.range (m - len)).map fun j => D (len + j)) := congrArg Prod.fst hx
    have key1 : ∀ j, j < len → ∃ s : Stp, a.block < W.heap.size ∧ StpAt W W.heap.size (a.add (j * 4)) s := by
      intro j hj
      have hjm : j < m := by rw [hmm]; simp; omega
      obtain ⟨cs, hc, htr⟩ := hi j hjm
      rw [hC4] at hc
      obtain ⟨_, hcl, hat⟩ := World.cells?_some hc
      obtain ⟨xs, n', _, hD, _, hxl, hg⟩ := DataW.trod_struct he htr
      have hmem : D j ∈ (List.range len).map D := List.mem_map.2 ⟨j, List.mem_range.2 hj, rfl⟩
      have hDj : D j = .agg (xs.map (·.1)) := congrArg Prod.fst hD
      have key : ∀ (i : Nat) (f : Field), (#[g0, g1, g2, g3] : Array Field)[i]? = some f → i < 4 → ∃ u y, cs[i]? = some u ∧ xs[i]? = some y ∧ DataW.trod enc P W 0 (fun _ => true) true n' f.type [u] = some y ∧ W.cell? ((a.add (j * 4)).add i) = some u := by
        intro i f hfi hi5
        obtain ⟨ho, hk⟩ := hone_of hone4 i f hfi
        have hu : cs[i]? = some (cs[i]'(by omega)) := List.getElem?_eq_getElem (by omega)
        have hy : xs[i]? = some (xs[i]'(by simp at hxl; omega)) := List.getElem?_eq_getElem (by simp at hxl; omega)
        have h1 := hg i f hfi
        rw [ho, hk, take_one hu] at h1
        exact ⟨_, _, hu, hy, h1.trans hy, (hat i hi5).trans hu⟩
      obtain ⟨x0, y0, _, e0, t0, k0⟩ := key 0 g0 rfl (by omega)
      obtain ⟨x1, y1, _, e1, t1, k1⟩ := key 1 g1 rfl (by omega)
      obtain ⟨x2, y2, _, e2, t2, k2⟩ := key 2 g2 rfl (by omega)
      obtain ⟨x3, y3, _, e3, t3, k3⟩ := key 3 g3 rfl (by omega)
      obtain ⟨z0, q0, _, _⟩ := DataW.trod_int v0 t0
      obtain ⟨z2, q2, _⟩ := DataW.trod_bool v2 t2
      obtain ⟨z3, q3, _, w3⟩ := DataW.trod_int v3 t3
      have b3 := bounds_u8 w3
      obtain ⟨c3, rfl⟩ := u8_of (z := z3) (by omega) (by omega)
      obtain ⟨d1, p1⟩ := y1
      obtain ⟨A', n1, c', q1, h1, h2, l, h3⟩ := opts_cs v1 heo hone hC u0 u1 t1 (fun w hw => hsz w (by
        rw [hd]
        unfold DataW.weights
        rw [ht]
        refine List.mem_cons.2 (.inr (List.mem_append.2 (.inl (all_mem hmem _ ?_))))
        rw [hDj]
        unfold DataW.weights
        rw [he]
        exact DataW.weights_mem_each (j := 1) (t := g1.type) rfl (d := d1) (by rw [List.getElem?_map, e1]; rfl) _ hw))
      rw [q1] at t1
      have h4 := cap_cs v1 t1
      cases q0; cases q1; cases q2; cases q3
      have hblk : a.block < W.heap.size := by
        have := World.block_lt_of_cell? W _ k0
        rwa [Oct.block_add, Oct.block_add] at this
      have hn := h3.1
      subst hn
      exact ⟨⟨z0, l, z2, c3⟩, hblk, A', c', by rwa [show ((a.add (j * 4)).add 0) = a.add (j * 4) from by unfold Addr.add; simp] at k0, k1, k2, k3, h3, h1, h4, h2⟩
    obtain ⟨f, hf⟩ := choose_lt (α := Stp) key1
    refine ⟨(List.range len).map f, by simp, fun h0 => ⟨a, rfl, (hf 0 h0).1, fun j hj => ?_⟩⟩
    have hj' : j < len := by simpa using hj
    have := (hf j hj').2
    simp only [List.getElem_map, List.getElem_range]
    exact this
end Go.Proofs.YtpohcejgblahiaaGreat.Opt

/- A row of structs of five cells, the second of which is a row of options, among the arguments. Of no program. -/
namespace Go.Proofs.YtpohcejgblahiaaGreat.Opt
open Go.ChangeShapes Go.WideShapes Go.ChangeAt Go.RowKit Go.Joins Go.Deep Go.Proofs.YtpohcejgblahiaaGreat.Oct

/-- A step: what is done, a row, a bool, a byte, a number. -/
structure Stp5 where
  d : Int
  l : List Opt
  o : Bool
  n : UInt8
  v : UInt32
deriving Inhabited
/-- What lies at a step. -/
def Stp5At (w : World) (B : Nat) (a : Addr) (s : Stp5) : Prop := ∃ A' c', w.cell? a = some (.int .i64 s.d) ∧ w.cell? (a.add 1) = some (.slice A' s.l.length c') ∧ w.cell? (a.add 2) = some (.bool s.o) ∧ w.cell? (a.add 3) = some (.int .u8 s.n.toNat) ∧ w.cell? (a.add 4) = some (.int .u32 s.v.toNat) ∧ Opts w B A' s.l.length s.l ∧ s.l.length ≤ maxLen ∧ s.l.length ≤ c' ∧ (A' = none → c' = 0)
/-- The slice '.slice A n c' holds the steps ss, in blocks below B. -/
def St5Row (w : World) (B : Nat) (A : Option Addr) (n : Nat) (ss : List Stp5) : Prop :=
  ss.length = n ∧ (0 < n → ∃ ad, A = some ad ∧ ad.block < B ∧ ∀ j (h : j < ss.length), Stp5At w B (ad.add (j * 5)) ss[j])
theorem Stp5At.below {w w' : World} {B : Nat} {a : Addr} {s : Stp5} (h : Stp5At w B a s) (hb : Below B w w') (ha : a.block < B) : Stp5At w' B a s := by
  obtain ⟨A', c', h0, h1, h2, h3, h6, h4, h5⟩ := h
  exact ⟨A', c', (hb.cell ha).trans h0, (hb.cell (by rw [Oct.block_add]; exact ha)).trans h1, (hb.cell (by rw [Oct.block_add]; exact ha)).trans h2, (hb.cell (by rw [Oct.block_add]; exact ha)).trans h3, (hb.cell (by rw [Oct.block_add]; exact ha)).trans h6, h4.below hb, h5⟩
theorem St5Row.below {w w' : World} {B : Nat} {A : Option Addr} {n : Nat} {ss : List Stp5} (h : St5Row w B A n ss) (hb : Below B w w') : St5Row w' B A n ss :=
  ⟨h.1, fun hn => by
    obtain ⟨ad, e, hB, hc⟩ := h.2 hn
    exact ⟨ad, e, hB, fun j hj => (hc j hj).below hb (by rw [Oct.block_add]; exact hB)⟩⟩
theorem St5Row.at_ {w : World} {B : Nat} {A : Option Addr} {n k : Nat} {ss : List Stp5} (h : St5Row w B A n ss) (hk : k < n) : ∃ ad s, A = some ad ∧ ad.block < B ∧ ss[k]? = some s ∧ Stp5At w B (ad.add (k * 5)) s := by
  obtain ⟨ad, e, hB, hc⟩ := h.2 (by omega)
  have hl : k < ss.length := by rw [h.1]; exact hk
  exact ⟨ad, ss[k], e, hB, List.getElem?_eq_getElem hl, hc k hl⟩
theorem steps5_of {H : Type} {enc : TypeId × Value → H} {P : Program} {W : World} {base : Nat} {t e eo : TypeId} {g0 g1 g2 g3 g4 f0 f1 : Field} {v : Value} {d : DataW H} {p : List MemPlace} (ht : P.underlying t = some (.slice e)) (he : P.underlying e = some (.struct #[g0, g1, g2, g3, g4]))
    (hone5 : oneCellFields P #[g0, g1, g2, g3, g4] = true) (hC5 : P.cellsOf e = 5) (v0 : P.underlying g0.type = some (.int .i64)) (v1 : P.underlying g1.type = some (.slice eo)) (v2 : P.underlying g2.type = some .bool) (v3 : P.underlying g3.type = some (.int .u8)) (v4 : P.underlying g4.type = some (.int .u32))
    (heo : P.underlying eo = some (.struct #[f0, f1])) (hone : oneCellFields P #[f0, f1] = true) (hC : P.cellsOf eo = 2) (u0 : P.underlying f0.type = some (.int .u8)) (u1 : P.underlying f1.type = some .string)
    (hv : Value.okWide P W .any base t v) (h : DataW.Trod enc P W 0 (fun _ => true) true t v d p) (hsz : ∀ n ∈ d.weights P t, n ≤ reachBytes) : ∃ A n c, v = .slice A n c ∧ n ≤ maxLen ∧ ∃ ss, St5Row W W.heap.size A n ss := by
  obtain ⟨a0, len, cap, rfl⟩ := okWide_slice ht hv
  obtain ⟨fuel, hf⟩ := h
  rcases open_slice ht hf with ⟨hcs, hx⟩ | ⟨a, len', cap', m, n, D, Pl, hcs, _, hl, hm, hmm, hx, hi⟩
  · simp [Value.cells] at hcs
    obtain ⟨rfl, rfl, rfl⟩ := hcs
    exact ⟨none, 0, 0, rfl, by simp [maxLen], [], rfl, fun h => absurd h (Nat.lt_irrefl _)⟩
  · simp [Value.cells] at hcs
    obtain ⟨rfl, rfl, rfl⟩ := hcs
    refine ⟨some a, len, cap, rfl, by omega, ?_⟩
    have hd : d = .slice ((List.range len).map D) ((List.range (m - len)).map fun j => D (len + j)) := congrArg Prod.fst hx
    have key1 : ∀ j, j < len → ∃ s : Stp5, a.block < W.heap.size ∧ Stp5At W W.heap.size (a.add (j * 5)) s := by
      intro j hj
      have hjm : j < m := by rw [hmm]; simp; omega
      obtain ⟨cs, hc, htr⟩ := hi j hjm
      rw [hC5] at hc
      obtain ⟨_, hcl, hat⟩ := World.cells?_some hc
      obtain ⟨xs, n', _, hD, _, hxl, hg⟩ := DataW.trod_struct he htr
      have hmem : D j ∈ (List.range len).map D := List.mem_map.2 ⟨j, List.mem_range.2 hj, rfl⟩
      have hDj : D j = .agg (xs.map (·.1)) := congrArg Prod.fst hD
      have key : ∀ (i : Nat) (f : Field), (#[g0, g1, g2, g3, g4] : Array Field)[i]? = some f → i < 5 → ∃ u y, cs[i]? = some u ∧ xs[i]? = some y ∧ DataW.trod enc P W 0 (fun _ => true) true n' f.type [u] = some y ∧ W.cell? ((a.add (j * 5)).add i) = some u := by
        intro i f hfi hi5
        obtain ⟨ho, hk⟩ := hone_of hone5 i f hfi
        have hu : cs[i]? = some (cs[i]'(by omega)) := List.getElem?_eq_getElem (by omega)
        have hy : xs[i]? = some (xs[i]'(by simp at hxl; omega)) := List.getElem?_eq_getElem (by simp at hxl; omega)
        have h1 := hg i f hfi
        rw [ho, hk, take_one hu] at h1
        exact ⟨_, _, hu, hy, h1.trans hy, (hat i hi5).trans hu⟩
      obtain ⟨x0, y0, _, e0, t0, k0⟩ := key 0 g0 rfl (by omega)
      obtain ⟨x1, y1, _, e1, t1, k1⟩ := key 1 g1 rfl (by omega)
      obtain ⟨x2, y2, _, e2, t2, k2⟩ := key 2 g2 rfl (by omega)
      obtain ⟨x3, y3, _, e3, t3, k3⟩ := key 3 g3 rfl (by omega)
      obtain ⟨x4, y4, _, e4, t4, k4⟩ := key 4 g4 rfl (by omega)
      obtain ⟨z0, q0, _, _⟩ := DataW.trod_int v0 t0
      obtain ⟨z2, q2, _⟩ := DataW.trod_bool v2 t2
      obtain ⟨z3, q3, _, w3⟩ := DataW.trod_int v3 t3
      obtain ⟨z4, q4, _, w4⟩ := DataW.trod_int v4 t4
      have b3 := bounds_u8 w3
      obtain ⟨c3, rfl⟩ := u8_of (z := z3) (by omega) (by omega)
      obtain ⟨c4, rfl⟩ := u32_of (z := z4) (bounds_u32 w4)
      obtain ⟨d1, p1⟩ := y1
      obtain ⟨A', n1, c', q1, h1, h2, l, h3⟩ := opts_cs v1 heo hone hC u0 u1 t1 (fun w hw => hsz w (by
        rw [hd]
        unfold DataW.weights
        rw [ht]
        refine List.mem_cons.2 (.inr (List.mem_append.2 (.inl (all_mem hmem _ ?_))))
        rw [hDj]
        unfold DataW.weights
        rw [he]
        exact DataW.weights_mem_each (j := 1) (t := g1.type) rfl (d := d1) (by rw [List.getElem?_map, e1]; rfl) _ hw))
      rw [q1] at t1
      have h4 := cap_cs v1 t1
      cases q0; cases q1; cases q2; cases q3; cases q4
      have hblk : a.block < W.heap.size := by
        have := World.block_lt_of_cell? W _ k0
        rwa [Oct.block_add, Oct.block_add] at this
      have hn := h3.1
      subst hn
      exact ⟨⟨z0, l, z2, c3, c4⟩, hblk, A', c', by rwa [show ((a.add (j * 5)).add 0) = a.add (j * 5) from by unfold Addr.add; simp] at k0, k1, k2, k3, k4, h3, h1, h4, h2⟩
    obtain ⟨f, hf⟩ := choose_lt (α := Stp5) key1
    refine ⟨(List.range len).map f, by simp, fun h0 => ⟨a, rfl, (hf 0 h0).1, fun j hj => ?_⟩⟩
    have hj' : j < len := by simpa using hj
    have := (hf j hj').2
    simp only [List.getElem_map, List.getElem_range]
    exact this
end Go.Proofs.YtpohcejgblahiaaGreat.Opt
