/- Put together: OptOf, PolX. -/
import Derived.Test.YtpppggicihfbgaaGreatGOpts
import Derived.WalkKit
import Derived.ProofKit
import Derived.RowKit
import Derived.Lib.SmallJoins
import Derived.SizedLaws

/- An option by value among the arguments; numbers of a kind. Of no program. -/
namespace Go.Proofs.YtpppggicihfbgaaGreat.Opt
open Go.ChangeShapes Go.WideShapes Go.ChangeAt Go.RowKit Go.Joins Go.Deep Go.Proofs.YtpppggicihfbgaaGreat.Oct

theorem u16_of {z : Int} (h : 0 ≤ z ∧ z ≤ 65535) : ∃ c : UInt16, z = (c.toNat : Int) := ⟨UInt16.ofNat z.toNat, by rw [UInt16.toNat_ofNat']; omega⟩
theorem u32_of {z : Int} (h : 0 ≤ z ∧ z ≤ 4294967295) : ∃ c : UInt32, z = (c.toNat : Int) := ⟨UInt32.ofNat z.toNat, by rw [UInt32.toNat_ofNat']; omega⟩
end Go.Proofs.YtpppggicihfbgaaGreat.Opt

/- A configuration among the arguments. -/
namespace Go.Proofs.YtpppggicihfbgaaGreat.Pol
open Go.ChangeShapes Go.WideShapes Go.ChangeAt Go.RowKit Go.Joins Go.Deep Go.Proofs.YtpppggicihfbgaaGreat.Oct Go.Proofs.YtpppggicihfbgaaGreat.Opt

theorem conf_of {H : Type} {enc : TypeId × Value → H} {P : Program} {W : World} {base : Nat} {t : TypeId} {f0 f1 f2 f3 f4 f5 f6 f7 f8 f9 : Field} {v : Value} {d : DataW H} {p : List MemPlace} (ht : P.underlying t = some (.struct #[f0, f1, f2, f3, f4, f5, f6, f7, f8, f9])) (hone : oneCellFields P #[f0, f1, f2, f3, f4, f5, f6, f7, f8, f9] = true) (hC : P.cellsOf t = 10)
    (u0 : P.underlying f0.type = some (.int .u16)) (u1 : P.underlying f1.type = some .bool) (u2 : P.underlying f2.type = some (.int .u32)) (u3 : P.underlying f3.type = some (.int .u8)) (u4 : P.underlying f4.type = some (.int .u8)) (u5 : P.underlying f5.type = some (.int .u8)) (u6 : P.underlying f6.type = some .bool) (u7 : P.underlying f7.type = some .bool) (u8 : P.underlying f8.type = some .bool) (u9 : P.underlying f9.type = some (.int .i64)) (hv : Value.okWide P W .any base t v) (h : DataW.Trod enc P W 0 (fun _ => true) true t v d p) : ∃ x : Conf, v = .agg (cv x).toArray := by
  obtain ⟨cs, rfl, hsz⟩ := okWide_struct ht hv
  obtain ⟨c0, c1, c2, c3, c4, c5, c6, c7, c8, c9, rfl⟩ : ∃ c0 c1 c2 c3 c4 c5 c6 c7 c8 c9, cs = #[c0, c1, c2, c3, c4, c5, c6, c7, c8, c9] := by
    have h2 := hsz.trans hC
    obtain ⟨l⟩ := cs
    match l, h2 with
    | [c0, c1, c2, c3, c4, c5, c6, c7, c8, c9], _ => exact ⟨c0, c1, c2, c3, c4, c5, c6, c7, c8, c9, rfl⟩
  obtain ⟨fuel, hf⟩ := h
  obtain ⟨xs, n, _, _, _, hxl, hg⟩ := DataW.trod_struct ht hf
  have key : ∀ (i : Nat) (f : Field) (u : Value), (#[f0, f1, f2, f3, f4, f5, f6, f7, f8, f9] : Array Field)[i]? = some f → [c0, c1, c2, c3, c4, c5, c6, c7, c8, c9][i]? = some u → ∃ y, DataW.trod enc P W 0 (fun _ => true) true n f.type [u] = some y := by
    intro i f u hfi hu
    obtain ⟨ho, hk⟩ := hone_of hone i f hfi
    have hi : i < 10 := (List.getElem?_eq_some_iff.1 hu).1
    have h1 := hg i f hfi
    have hc : ((Value.agg #[c0, c1, c2, c3, c4, c5, c6, c7, c8, c9]).cells.toList.drop i).take 1 = [u] := by rw [show (Value.agg #[c0, c1, c2, c3, c4, c5, c6, c7, c8, c9]).cells.toList = [c0, c1, c2, c3, c4, c5, c6, c7, c8, c9] by simp [Value.cells]]; exact take_one (l := [c0, c1, c2, c3, c4, c5, c6, c7, c8, c9]) hu
    rw [ho, hk, hc] at h1
    have hl : i < xs.length := by rw [hxl]; exact hi
    exact ⟨_, h1.trans (List.getElem?_eq_getElem hl)⟩
  obtain ⟨y0, t0⟩ := key 0 f0 c0 rfl rfl
  obtain ⟨z0, e0, _, w0⟩ := DataW.trod_int u0 t0
  obtain ⟨y1, t1⟩ := key 1 f1 c1 rfl rfl
  obtain ⟨b1, e1, _⟩ := DataW.trod_bool u1 t1
  obtain ⟨y2, t2⟩ := key 2 f2 c2 rfl rfl
  obtain ⟨z2, e2, _, w2⟩ := DataW.trod_int u2 t2
  obtain ⟨y3, t3⟩ := key 3 f3 c3 rfl rfl
  obtain ⟨z3, e3, _, w3⟩ := DataW.trod_int u3 t3
  obtain ⟨y4, t4⟩ := key 4 f4 c4 rfl rfl
  obtain ⟨z4, e4, _, w4⟩ := DataW.trod_int u4 t4
  obtain ⟨y5, t5⟩ := key 5 f5 c5 rfl rfl
  obtain ⟨z5, e5, _, w5⟩ := DataW.trod_int u5 t5
  obtain ⟨y6, t6⟩ := key 6 f6 c6 rfl rfl
  obtain ⟨b6, e6, _⟩ := DataW.trod_bool u6 t6
  obtain ⟨y7, t7⟩ := key 7 f7 c7 rfl rfl
  obtain ⟨b7, e7, _⟩ := DataW.trod_bool u7 t7
  obtain ⟨y8, t8⟩ := key 8 f8 c8 rfl rfl
  obtain ⟨b8, e8, _⟩ := DataW.trod_bool u8 t8
  obtain ⟨y9, t9⟩ := key 9 f9 c9 rfl rfl
  obtain ⟨z9, e9, _, w9⟩ := DataW.trod_int u9 t9
  obtain ⟨b0, rfl⟩ := u16_of (bounds_u16 w0)
  obtain ⟨b2, rfl⟩ := u32_of (bounds_u32 w2)
  obtain ⟨b3, rfl⟩ := u8_of (bounds_u8 w3).1 (bounds_u8 w3).2
  obtain ⟨b4, rfl⟩ := u8_of (bounds_u8 w4).1 (bounds_u8 w4).2
  obtain ⟨b5, rfl⟩ := u8_of (bounds_u8 w5).1 (bounds_u8 w5).2
  simp at e0 e1 e2 e3 e4 e5 e6 e7 e8 e9
  subst e0 e1 e2 e3 e4 e5 e6 e7 e8 e9
  exact ⟨⟨b0, b1, b2, b3, b4, b5, b6, b7, b8, z9⟩, rfl⟩
end Go.Proofs.YtpppggicihfbgaaGreat.Pol
