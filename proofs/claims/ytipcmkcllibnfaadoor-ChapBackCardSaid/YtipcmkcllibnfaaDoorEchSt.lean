/- The steps of a script among the arguments: a row of structs of six cells, three of which are a packet. Of no function. -/
import Derived.Test.YtipcmkcllibnfaaDoorPks
import Derived.Deep.Slices
import Derived.Deep.Fields
import Derived.SizedLaws
import Derived.WalkKit
import Derived.ProofKit
import Derived.Lib.SmallJoins
namespace Go.Proofs.YtipcmkcllibnfaaDoor.Ech
open Go.ChangeShapes Go.WideShapes Go.ChangeAt Go.RowKit Go.Joins Go.Deep Go.Proofs.YtipcmkcllibnfaaDoor.Oct Go.Proofs.YtipcmkcllibnfaaDoor.Mem

/-- A step: what is done, a time, a packet, a number. -/
structure Stp where
  d : Int
  a : Int
  p : Pk
  mg : Nat
def StpAt (w : World) (ad : Addr) (s : Stp) : Prop :=
  w.cell? ad = some (.int .i64 s.d) ∧ w.cell? ⟨ad.block, ad.off + 1, none⟩ = some (.int .i64 s.a) ∧ w.cell? ⟨ad.block, ad.off + 2, none⟩ = some (.int .u8 s.p.c.toNat) ∧ w.cell? ⟨ad.block, ad.off + 3, none⟩ = some (.int .u8 s.p.i.toNat) ∧ w.cell? ⟨ad.block, ad.off + 4, none⟩ = some (.string s.p.d) ∧ w.cell? ⟨ad.block, ad.off + 5, none⟩ = some (.int .u32 s.mg)
/-- A slice of n steps, in blocks below B. -/
def Stps (w : World) (B : Nat) (A : Option Addr) (n : Nat) : Prop :=
  ∀ j, j < n → ∃ ad s, A = some ad ∧ ad.block < B ∧ StpAt w (ad.add (j * 6)) s ∧ s.p.d.size ≤ 140737488351232 ∧ s.mg < 4294967296 ∧ -9223372036854775808 ≤ s.a ∧ s.a ≤ 9223372036854775807
theorem StpAt.below {w w' : World} {B : Nat} {ad : Addr} {s : Stp} (h : StpAt w ad s) (hb : Below B w w') (hB : ad.block < B) : StpAt w' ad s := by
  obtain ⟨h0, h1, h2, h3, h4, h5⟩ := h
  exact ⟨(hb.cell hB).trans h0, (hb.cell (p := ⟨ad.block, ad.off + 1, none⟩) hB).trans h1, (hb.cell (p := ⟨ad.block, ad.off + 2, none⟩) hB).trans h2, (hb.cell (p := ⟨ad.block, ad.off + 3, none⟩) hB).trans h3, (hb.cell (p := ⟨ad.block, ad.off + 4, none⟩) hB).trans h4, (hb.cell (p := ⟨ad.block, ad.off + 5, none⟩) hB).trans h5⟩
theorem Stps.below {w w' : World} {B : Nat} {A : Option Addr} {n : Nat} (h : Stps w B A n) (hb : Below B w w') : Stps w' B A n := fun j hj => by
  obtain ⟨ad, s, hA, hB, hs, h1⟩ := h j hj
  exact ⟨ad, s, hA, hB, hs.below hb (by rw [Oct.block_add]; exact hB), h1⟩
theorem all_mem {H : Type} {P : Program} {e : TypeId} : ∀ {l : List (DataW H)} {d : DataW H}, d ∈ l → ∀ n ∈ d.weights P e, n ∈ DataW.weightsAll P e l
  | x :: l, d, hd, n, hn => by
    rw [DataW.weightsAll, List.mem_append]
    rcases List.mem_cons.1 hd with rfl | hd
    · exact .inl hn
    · exact .inr (all_mem hd n hn)
theorem take_one {l : List Value} {i : Nat} {v : Value} (h : l[i]? = some v) : (l.drop i).take 1 = [v] := by
  obtain ⟨hi, rfl⟩ := List.getElem?_eq_some_iff.1 h
  rw [List.drop_eq_getElem_cons hi]
  rfl
theorem u8_of {z : Int} (h0 : 0 ≤ z) (h : z ≤ 255) : ∃ c : UInt8, z = (c.toNat : Int) :=
  ⟨UInt8.ofNat z.toNat, by rw [UInt8.toNat_ofNat']; omega⟩
/-- A packet's cells, read. -/
theorem pk_cells {H : Type} {enc : TypeId × Value → H} {P : Program} {W : World} {t : TypeId} {f0 f1 f2 : Field} {n : Nat} {cs : List Value} {y : DataW H × List MemPlace} (he : P.underlying t = some (.struct #[f0, f1, f2])) (hone : oneCellFields P #[f0, f1, f2] = true) (hC : P.cellsOf t = 3)
    (u0 : P.underlying f0.type = some (.int .u8)) (u1 : P.underlying f1.type = some (.int .u8)) (u2 : P.underlying f2.type = some .string) (h : DataW.trod enc P W 0 (fun _ => true) true n t cs = some y) :
    ∃ p : Pk, cs = pkV p ∧ ∃ d, y.1 = .agg d ∧ p.d.data.toList.length ∈ y.1.weights P t := by
  obtain ⟨xs, n', _, hD, hl, hxl, hg⟩ := DataW.trod_struct he h
  rw [hC] at hl
  match cs, hl with
  | [a, b, c], _ =>
    have key : ∀ (i : Nat) (f : Field), (#[f0, f1, f2] : Array Field)[i]? = some f → i < 3 → ∃ u y, [a, b, c][i]? = some u ∧ xs[i]? = some y ∧ DataW.trod enc P W 0 (fun _ => true) true n' f.type [u] = some y := by
      intro i f hfi hi5
      obtain ⟨ho, hk⟩ := hone_of hone i f hfi
      have hu : [a, b, c][i]? = some ([a, b, c][i]'(by simpa using hi5)) := List.getElem?_eq_getElem (by simpa using hi5)
      have hy : xs[i]? = some (xs[i]'(by simp at hxl; omega)) := List.getElem?_eq_getElem (by simp at hxl; omega)
      have h1 := hg i f hfi
      rw [ho, hk, take_one hu] at h1
      exact ⟨_, _, hu, hy, h1.trans hy⟩
    obtain ⟨v0, y0, g0, e0, t0⟩ := key 0 f0 rfl (by omega)
    obtain ⟨v1, y1, g1, e1, t1⟩ := key 1 f1 rfl (by omega)
    obtain ⟨v2, y2, g2, e2, t2⟩ := key 2 f2 rfl (by omega)
    simp at g0 g1 g2
    subst g0 g1 g2
    obtain ⟨z0, q0, _, w0⟩ := DataW.trod_int u0 t0
    obtain ⟨z1, q1, _, w1⟩ := DataW.trod_int u1 t1
    obtain ⟨S, q2, r2, _⟩ := DataW.trod_string u2 t2
    have b0 := bounds_u8 w0
    have b1 := bounds_u8 w1
    obtain ⟨c0, rfl⟩ := u8_of (z := z0) (by omega) (by omega)
    obtain ⟨c1, rfl⟩ := u8_of (z := z1) (by omega) (by omega)
    cases q0; cases q1; cases q2
    refine ⟨⟨c0, c1, S⟩, rfl, _, congrArg Prod.fst hD, ?_⟩
    rw [hD]
    unfold DataW.weights
    rw [he]
    refine DataW.weights_mem_each (j := 2) (t := f2.type) rfl (d := .lit (.string S.data.toList)) ?_ _ ?_
    · rw [List.getElem?_map, e2, r2]; rfl
    · unfold DataW.weights; simp
theorem list4 {α : Type} {l : List α} (h : l.length = 4) : ∃ a b c d, l = [a, b, c, d] := by
  match l, h with
  | [a, b, c, d], _ => exact ⟨a, b, c, d, rfl⟩
theorem list6 {α : Type} {l : List α} (h : l.length = 6) : ∃ a b c d e f, l = [a, b, c, d, e, f] := by
  match l, h with
  | [a, b, c, d, e, f], _ => exact ⟨a, b, c, d, e, f, rfl⟩
theorem esteps_of {H : Type} {enc : TypeId × Value → H} {P : Program} {W : World} {base : Nat} {t e : TypeId} {g0 g1 g2 g3 f0 f1 f2 : Field} {v : Value} {d : DataW H} {p : List MemPlace} (ht : P.underlying t = some (.slice e)) (he : P.underlying e = some (.struct #[g0, g1, g2, g3]))
    (hoff : (g0.offset, g1.offset, g2.offset, g3.offset) = (0, 1, 2, 5)) (hcel : (P.cellsOf g0.type, P.cellsOf g1.type, P.cellsOf g2.type, P.cellsOf g3.type) = (1, 1, 3, 1)) (hC : P.cellsOf e = 6)
    (v0 : P.underlying g0.type = some (.int .i64)) (v1 : P.underlying g1.type = some (.int .i64)) (v2 : P.underlying g2.type = some (.struct #[f0, f1, f2])) (v3 : P.underlying g3.type = some (.int .u32))
    (hone : oneCellFields P #[f0, f1, f2] = true) (u0 : P.underlying f0.type = some (.int .u8)) (u1 : P.underlying f1.type = some (.int .u8)) (u2 : P.underlying f2.type = some .string)
    (hv : Value.okWide P W .any base t v) (h : DataW.Trod enc P W 0 (fun _ => true) true t v d p) (hsz : ∀ n ∈ d.weights P t, n ≤ reachBytes) : ∃ A n c, v = .slice A n c ∧ n ≤ maxLen ∧ Stps W W.heap.size A n := by
  simp only [Prod.mk.injEq] at hoff hcel
  obtain ⟨o0, o1, o2, o3⟩ := hoff
  obtain ⟨k0, k1, k2, k3⟩ := hcel
  obtain ⟨a0, len, cap, rfl⟩ := okWide_slice ht hv
  obtain ⟨fuel, hf⟩ := h
  rcases open_slice ht hf with ⟨hcs, hx⟩ | ⟨a, len', cap', m, n, D, Pl, hcs, _, hl, hm, hmm, hx, hi⟩
  · simp [Value.cells] at hcs
    obtain ⟨rfl, rfl, rfl⟩ := hcs
    exact ⟨none, 0, 0, rfl, by simp [maxLen], fun j hj => absurd hj (Nat.not_lt_zero _)⟩
  · simp [Value.cells] at hcs
    obtain ⟨rfl, rfl, rfl⟩ := hcs
    refine ⟨some a, len, cap, rfl, by omega, fun j hj => ?_⟩
    have hd : d = .slice ((List.range len).map D) ((List.range (m - len)).map fun j => D (len + j)) := congrArg Prod.fst hx
    have hjm : j < m := by rw [hmm]; simp; omega
    obtain ⟨cs, hc, htr⟩ := hi j hjm
    rw [hC] at hc
    obtain ⟨_, hcl, hat⟩ := World.cells?_some hc
    obtain ⟨xs, n', _, hD, _, hxl, hg⟩ := DataW.trod_struct he htr
    have hmem : D j ∈ (List.range len).map D := List.mem_map.2 ⟨j, List.mem_range.2 hj, rfl⟩
    have hDj : D j = .agg (xs.map (·.1)) := congrArg Prod.fst hD
    have at' : ∀ i, (hi : i < 6) → W.cell? ((a.add (j * 6)).add i) = cs[i]? := fun i hi => hat i hi
    obtain ⟨x0, x1, x2, x3, x4, x5, rfl⟩ := list6 hcl
    obtain ⟨y0, y1, y2, y3, rfl⟩ := list4 (by simpa using hxl)
    have t0 := hg 0 g0 rfl
    have t1 := hg 1 g1 rfl
    have t2 := hg 2 g2 rfl
    have t3 := hg 3 g3 rfl
    rw [o0, k0] at t0
    rw [o1, k1] at t1
    rw [o2, k2] at t2
    rw [o3, k3] at t3
    simp only [List.drop_succ_cons, List.drop_zero, List.take_succ_cons, List.take_zero, List.getElem?_cons_zero, List.getElem?_cons_succ] at t0 t1 t2 t3
    obtain ⟨z0, q0, _, _⟩ := DataW.trod_int v0 t0
    obtain ⟨z1, q1, _, w1⟩ := DataW.trod_int v1 t1
    obtain ⟨pk, q2, dd, hdd, hw⟩ := pk_cells v2 hone k2 u0 u1 u2 t2
    obtain ⟨z3, q3, _, w3⟩ := DataW.trod_int v3 t3
    have b3 := bounds_u32 w3
    have b1 := bounds_i64 w1
    have e0 : x0 = .int .i64 z0 := by simpa using q0
    have e1 : x1 = .int .i64 z1 := by simpa using q1
    have e3 : x5 = .int .u32 z3 := by simpa using q3
    have e2 : x2 = .int .u8 pk.c.toNat ∧ x3 = .int .u8 pk.i.toNat ∧ x4 = .string pk.d := by
      unfold pkV at q2
      simpa using q2
    obtain ⟨rfl, rfl, rfl⟩ := e2
    subst e0 e1 e3
    have c0 := at' 0 (by omega)
    have hblk : a.block < W.heap.size := by
      have := World.block_lt_of_cell? W _ c0
      rwa [Oct.block_add, Oct.block_add] at this
    refine ⟨a, ⟨z0, z1, pk, z3.toNat⟩, rfl, hblk, ⟨?_, at' 1 (by omega), at' 2 (by omega), at' 3 (by omega), at' 4 (by omega), ?_⟩, ?_, by show z3.toNat < 4294967296; omega, by show -9223372036854775808 ≤ z1; omega, by show z1 ≤ 9223372036854775807; omega⟩
    · rwa [show ((a.add (j * 6)).add 0) = a.add (j * 6) from by unfold Addr.add; simp] at c0
    · have c5 := at' 5 (by omega)
      show W.cell? ⟨(a.add (j * 6)).block, (a.add (j * 6)).off + 5, none⟩ = some (.int .u32 (z3.toNat : Int))
      rw [Int.toNat_of_nonneg (by omega)]
      exact c5
    · have h2 := hsz pk.d.data.toList.length (by
        rw [hd]
        unfold DataW.weights
        rw [ht]
        refine List.mem_cons.2 (.inr (List.mem_append.2 (.inl (all_mem hmem _ ?_))))
        rw [hDj]
        unfold DataW.weights
        rw [he]
        exact DataW.weights_mem_each (j := 2) (t := g2.type) rfl (d := y2.1) rfl _ hw)
      rw [Array.length_toList] at h2
      exact h2
end Go.Proofs.YtipcmkcllibnfaaDoor.Ech
