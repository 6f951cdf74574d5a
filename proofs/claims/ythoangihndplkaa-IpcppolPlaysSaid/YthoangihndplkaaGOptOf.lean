/- Put together: OptOf, IppX. -/
import Derived.Test.YthoangihndplkaaGOpts
import Derived.WalkKit
import Derived.ProofKit
import Derived.RowKit
import Derived.Lib.SmallJoins
import Derived.SizedLaws
import Derived.Test.YthoangihndplkaaGOptPure

/- An option by value among the arguments; numbers of a kind. Of no program. -/
namespace Go.Proofs.Ythoangihndplkaa.Opt
open Go.ChangeShapes Go.WideShapes Go.ChangeAt Go.RowKit Go.Joins Go.Deep Go.Proofs.Ythoangihndplkaa.Oct

theorem u16_of {z : Int} (h : 0 ≤ z ∧ z ≤ 65535) : ∃ c : UInt16, z = (c.toNat : Int) := ⟨UInt16.ofNat z.toNat, by rw [UInt16.toNat_ofNat']; omega⟩
theorem u32_of {z : Int} (h : 0 ≤ z ∧ z ≤ 4294967295) : ∃ c : UInt32, z = (c.toNat : Int) := ⟨UInt32.ofNat z.toNat, by rw [UInt32.toNat_ofNat']; omega⟩
theorem opt_of {H : Type} {enc : TypeId × Value → H} {P : Program} {W : World} {base : Nat} {t : TypeId} {f0 f1 : Field} {v : Value} {d : DataW H} {p : List MemPlace} (ht : P.underlying t = some (.struct #[f0, f1])) (hone : oneCellFields P #[f0, f1] = true) (hC : P.cellsOf t = 2)
    (u0 : P.underlying f0.type = some (.int .u8)) (u1 : P.underlying f1.type = some .string) (hv : Value.okWide P W .any base t v) (h : DataW.Trod enc P W 0 (fun _ => true) true t v d p) (hsz : ∀ n ∈ d.weights P t, n ≤ reachBytes) :
    ∃ (c : UInt8) (s : ByteArray), v = .agg #[.int .u8 c.toNat, .string s] ∧ s.size ≤ 140737488351232 := by
  obtain ⟨c0, c1, y0, y1, m, rfl, rfl, rfl, hy0, hy1⟩ := open_agg2 ht hone hC hv h
  obtain ⟨a, e0, _, w0⟩ := DataW.trod_int u0 hy0
  obtain ⟨s, e1, r1, _⟩ := DataW.trod_string u1 hy1
  obtain ⟨c, rfl⟩ := u8_of (bounds_u8 w0).1 (bounds_u8 w0).2
  simp at e0 e1
  subst e0 e1
  refine ⟨c, s, rfl, ?_⟩
  have hw : s.data.toList.length ∈ (DataW.agg [y0.1, y1.1]).weights P t := by
    unfold DataW.weights
    rw [ht]
    refine DataW.weights_mem_each (j := 1) (t := f1.type) rfl (d := .lit (.string s.data.toList)) ?_ _ ?_
    · rw [r1]; rfl
    · unfold DataW.weights; simp
  have h2 := hsz _ hw
  rw [Array.length_toList] at h2
  exact h2
end Go.Proofs.Ythoangihndplkaa.Opt

/- A configuration among the arguments. -/
namespace Go.Proofs.Ythoangihndplkaa.Ipp
open Go.ChangeShapes Go.WideShapes Go.ChangeAt Go.RowKit Go.Joins Go.Deep Go.Proofs.Ythoangihndplkaa.Oct Go.Proofs.Ythoangihndplkaa.Opt

theorem conf_of {H : Type} {enc : TypeId × Value → H} {P : Program} {W : World} {base : Nat} {t : TypeId} {f0 f1 f2 f3 f4 f5 : Field} {v : Value} {d : DataW H} {p : List MemPlace} (ht : P.underlying t = some (.struct #[f0, f1, f2, f3, f4, f5])) (hone : oneCellFields P #[f0, f1, f2, f3, f4, f5] = true) (hC : P.cellsOf t = 6)
    (u0 : P.underlying f0.type = some (.int .u32)) (u1 : P.underlying f1.type = some (.int .u32)) (u2 : P.underlying f2.type = some (.int .u32)) (u3 : P.underlying f3.type = some (.int .u32)) (u4 : P.underlying f4.type = some .bool) (u5 : P.underlying f5.type = some (.int .i64)) (hv : Value.okWide P W .any base t v) (h : DataW.Trod enc P W 0 (fun _ => true) true t v d p) : ∃ x : Conf, v = .agg (cv x).toArray := by
  obtain ⟨cs, rfl, hsz⟩ := okWide_struct ht hv
  obtain ⟨c0, c1, c2, c3, c4, c5, rfl⟩ : ∃ c0 c1 c2 c3 c4 c5, cs = #[c0, c1, c2, c3, c4, c5] := by
    have h2 := hsz.trans hC
    obtain ⟨l⟩ := cs
    match l, h2 with
    | [c0, c1, c2, c3, c4, c5], _ => exact ⟨c0, c1, c2, c3, c4, c5, rfl⟩
  obtain ⟨fuel, hf⟩ := h
  obtain ⟨xs, n, _, _, _, hxl, hg⟩ := DataW.trod_struct ht hf
  have key : ∀ (i : Nat) (f : Field) (u : Value), (#[f0, f1, f2, f3, f4, f5] : Array Field)[i]? = some f → [c0, c1, c2, c3, c4, c5][i]? = some u → ∃ y, DataW.trod enc P W 0 (fun _ => true) true n f.type [u] = some y := by
    intro i f u hfi hu
    obtain ⟨ho, hk⟩ := hone_of hone i f hfi
    have hi : i < 6 := (List.getElem?_eq_some_iff.1 hu).1
    have h1 := hg i f hfi
    have hc : ((Value.agg #[c0, c1, c2, c3, c4, c5]).cells.toList.drop i).take 1 = [u] := by rw [show (Value.agg #[c0, c1, c2, c3, c4, c5]).cells.toList = [c0, c1, c2, c3, c4, c5] by simp [Value.cells]]; exact take_one (l := [c0, c1, c2, c3, c4, c5]) hu
    rw [ho, hk, hc] at h1
    have hl : i < xs.length := by rw [hxl]; exact hi
    exact ⟨_, h1.trans (List.getElem?_eq_getElem hl)⟩
  obtain ⟨y0, t0⟩ := key 0 f0 c0 rfl rfl
  obtain ⟨z0, e0, _, w0⟩ := DataW.trod_int u0 t0
  obtain ⟨y1, t1⟩ := key 1 f1 c1 rfl rfl
  obtain ⟨z1, e1, _, w1⟩ := DataW.trod_int u1 t1
  obtain ⟨y2, t2⟩ := key 2 f2 c2 rfl rfl
  obtain ⟨z2, e2, _, w2⟩ := DataW.trod_int u2 t2
  obtain ⟨y3, t3⟩ := key 3 f3 c3 rfl rfl
  obtain ⟨z3, e3, _, w3⟩ := DataW.trod_int u3 t3
  obtain ⟨y4, t4⟩ := key 4 f4 c4 rfl rfl
  obtain ⟨b4, e4, _⟩ := DataW.trod_bool u4 t4
  obtain ⟨y5, t5⟩ := key 5 f5 c5 rfl rfl
  obtain ⟨z5, e5, _, w5⟩ := DataW.trod_int u5 t5
  obtain ⟨b0, rfl⟩ := u32_of (bounds_u32 w0)
  obtain ⟨b1, rfl⟩ := u32_of (bounds_u32 w1)
  obtain ⟨b2, rfl⟩ := u32_of (bounds_u32 w2)
  obtain ⟨b3, rfl⟩ := u32_of (bounds_u32 w3)
  simp at e0 e1 e2 e3 e4 e5
  subst e0 e1 e2 e3 e4 e5
  exact ⟨⟨b0, b1, b2, b3, b4, z5⟩, rfl⟩
end Go.Proofs.Ythoangihndplkaa.Ipp
