/- A struct of nine cells (api.Lcp) and an option by value among the arguments. Of no program. -/
import Derived.Test.YtndpiefdmlhacaaLcoPure
import Derived.Test.YtndpiefdmlhacaaOptOf
import Derived.WalkKit
import Derived.ProofKit
import Derived.RowKit
import Derived.Lib.SmallJoins
import Derived.SizedLaws
namespace Go.Proofs.Ytndpiefdmlhacaa.Lco
open Go.ChangeShapes Go.WideShapes Go.ChangeAt Go.RowKit Go.Joins Go.Deep Go.Proofs.Ytndpiefdmlhacaa.Oct Go.Proofs.Ytndpiefdmlhacaa.Opt

theorem array9 {α : Type} {cs : Array α} (h : cs.size = 9) : ∃ c0 c1 c2 c3 c4 c5 c6 c7 c8, cs = #[c0, c1, c2, c3, c4, c5, c6, c7, c8] := by
  obtain ⟨l⟩ := cs
  match l, h with
  | [c0, c1, c2, c3, c4, c5, c6, c7, c8], _ => exact ⟨c0, c1, c2, c3, c4, c5, c6, c7, c8, rfl⟩
theorem lcp_of {H : Type} {enc : TypeId × Value → H} {P : Program} {W : World} {base : Nat} {t : TypeId} {f0 f1 f2 f3 f4 f5 f6 f7 f8 : Field} {v : Value} {d : DataW H} {p : List MemPlace} (ht : P.underlying t = some (.struct #[f0, f1, f2, f3, f4, f5, f6, f7, f8])) (hone : oneCellFields P #[f0, f1, f2, f3, f4, f5, f6, f7, f8] = true) (hC : P.cellsOf t = 9)
    (u0 : P.underlying f0.type = some .bool) (u1 : P.underlying f1.type = some (.int .u16)) (u2 : P.underlying f2.type = some .bool) (u3 : P.underlying f3.type = some (.int .u32)) (u4 : P.underlying f4.type = some (.int .u8)) (u5 : P.underlying f5.type = some .bool) (u6 : P.underlying f6.type = some (.int .u32)) (u7 : P.underlying f7.type = some .bool) (u8 : P.underlying f8.type = some .bool) (hv : Value.okWide P W .any base t v) (h : DataW.Trod enc P W 0 (fun _ => true) true t v d p) : ∃ x : Lcp, v = .agg (lv x).toArray := by
  obtain ⟨cs, rfl, hsz⟩ := okWide_struct ht hv
  obtain ⟨c0, c1, c2, c3, c4, c5, c6, c7, c8, rfl⟩ := array9 (hsz.trans hC)
  obtain ⟨fuel, hf⟩ := h
  obtain ⟨xs, n, _, _, _, hxl, hg⟩ := DataW.trod_struct ht hf
  have key : ∀ (i : Nat) (f : Field) (u : Value), (#[f0, f1, f2, f3, f4, f5, f6, f7, f8] : Array Field)[i]? = some f → [c0, c1, c2, c3, c4, c5, c6, c7, c8][i]? = some u → ∃ y, DataW.trod enc P W 0 (fun _ => true) true n f.type [u] = some y := by
    intro i f u hfi hu
    obtain ⟨ho, hk⟩ := hone_of hone i f hfi
    have hi : i < 9 := (List.getElem?_eq_some_iff.1 hu).1
    have h1 := hg i f hfi
    have hc : ((Value.agg #[c0, c1, c2, c3, c4, c5, c6, c7, c8]).cells.toList.drop i).take 1 = [u] := by rw [show (Value.agg #[c0, c1, c2, c3, c4, c5, c6, c7, c8]).cells.toList = [c0, c1, c2, c3, c4, c5, c6, c7, c8] by simp [Value.cells]]; exact take_one (l := [c0, c1, c2, c3, c4, c5, c6, c7, c8]) hu
    rw [ho, hk, hc] at h1
    have hl : i < xs.length := by rw [hxl]; exact hi
    exact ⟨_, h1.trans (List.getElem?_eq_getElem hl)⟩
  obtain ⟨y0, t0⟩ := key 0 f0 c0 rfl rfl
  obtain ⟨b0, e0, _⟩ := DataW.trod_bool u0 t0
  obtain ⟨y1, t1⟩ := key 1 f1 c1 rfl rfl
  obtain ⟨z1, e1, _, w1⟩ := DataW.trod_int u1 t1
  obtain ⟨y2, t2⟩ := key 2 f2 c2 rfl rfl
  obtain ⟨b2, e2, _⟩ := DataW.trod_bool u2 t2
  obtain ⟨y3, t3⟩ := key 3 f3 c3 rfl rfl
  obtain ⟨z3, e3, _, w3⟩ := DataW.trod_int u3 t3
  obtain ⟨y4, t4⟩ := key 4 f4 c4 rfl rfl
  obtain ⟨z4, e4, _, w4⟩ := DataW.trod_int u4 t4
  obtain ⟨y5, t5⟩ := key 5 f5 c5 rfl rfl
  obtain ⟨b5, e5, _⟩ := DataW.trod_bool u5 t5
  obtain ⟨y6, t6⟩ := key 6 f6 c6 rfl rfl
  obtain ⟨z6, e6, _, w6⟩ := DataW.trod_int u6 t6
  obtain ⟨y7, t7⟩ := key 7 f7 c7 rfl rfl
  obtain ⟨b7, e7, _⟩ := DataW.trod_bool u7 t7
  obtain ⟨y8, t8⟩ := key 8 f8 c8 rfl rfl
  obtain ⟨b8, e8, _⟩ := DataW.trod_bool u8 t8
  obtain ⟨b1, rfl⟩ := u16_of (bounds_u16 w1)
  obtain ⟨b3, rfl⟩ := u32_of (bounds_u32 w3)
  obtain ⟨b6, rfl⟩ := u32_of (bounds_u32 w6)
  obtain ⟨b4, rfl⟩ := Go.Proofs.Ytndpiefdmlhacaa.Opt.u8_of (bounds_u8 w4).1 (bounds_u8 w4).2
  simp at e0 e1 e2 e3 e4 e5 e6 e7 e8
  subst e0 e1 e2 e3 e4 e5 e6 e7 e8
  exact ⟨⟨b0, b1, b2, b3, b4, b5, b6, b7, b8⟩, rfl⟩
end Go.Proofs.Ytndpiefdmlhacaa.Lco
