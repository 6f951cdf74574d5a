/- A struct of two bytes and a text among the arguments. Of no program. -/
import Derived.WalkKit
import Derived.ProofKit
import Derived.RowKit
import Derived.Lib.SmallJoins
import Derived.SizedLaws
namespace Go.Proofs.Ythddfpmjjbpkgaa.Law
open Go.ChangeShapes Go.WideShapes Go.ChangeAt Go.RowKit Go.Joins Go.Deep

theorem u8_of {z : Int} (h0 : 0 ≤ z) (h : z ≤ 255) : ∃ c : UInt8, z = (c.toNat : Int) :=
  ⟨UInt8.ofNat z.toNat, by rw [UInt8.toNat_ofNat']; omega⟩
theorem pk3_of {H : Type} {enc : TypeId × Value → H} {P : Program} {W : World} {base : Nat} {t : TypeId} {f0 f1 f2 : Field} {v : Value} {d : DataW H} {p : List MemPlace} (ht : P.underlying t = some (.struct #[f0, f1, f2])) (hone : oneCellFields P #[f0, f1, f2] = true) (hC : P.cellsOf t = 3)
    (u0 : P.underlying f0.type = some (.int .u8)) (u1 : P.underlying f1.type = some (.int .u8)) (u2 : P.underlying f2.type = some .string) (hv : Value.okWide P W .any base t v) (h : DataW.Trod enc P W 0 (fun _ => true) true t v d p) (hsz : ∀ n ∈ d.weights P t, n ≤ reachBytes) :
    ∃ (c i : UInt8) (s : ByteArray), v = .agg #[.int .u8 c.toNat, .int .u8 i.toNat, .string s] ∧ s.size ≤ 140737488351232 := by
  obtain ⟨c0, c1, c2, y0, y1, y2, m, rfl, rfl, rfl, hy0, hy1, hy2⟩ := open_agg3 ht hone hC hv h
  obtain ⟨a, e0, _, w0⟩ := DataW.trod_int u0 hy0
  obtain ⟨b, e1, _, w1⟩ := DataW.trod_int u1 hy1
  obtain ⟨s, e2, r2, _⟩ := DataW.trod_string u2 hy2
  have b0 := bounds_u8 w0
  have b1 := bounds_u8 w1
  obtain ⟨c, rfl⟩ := u8_of (z := a) (by omega) (by omega)
  obtain ⟨i, rfl⟩ := u8_of (z := b) (by omega) (by omega)
  simp at e0 e1 e2
  subst e0 e1 e2
  refine ⟨c, i, s, rfl, ?_⟩
  have hw : s.data.toList.length ∈ (DataW.agg [y0.1, y1.1, y2.1]).weights P t := by
    unfold DataW.weights
    rw [ht]
    refine DataW.weights_mem_each (j := 2) (t := f2.type) rfl (d := .lit (.string s.data.toList)) ?_ _ ?_
    · rw [r2]; rfl
    · unfold DataW.weights; simp
  have h2 := hsz _ hw
  rw [Array.length_toList] at h2
  exact h2
end Go.Proofs.Ythddfpmjjbpkgaa.Law
