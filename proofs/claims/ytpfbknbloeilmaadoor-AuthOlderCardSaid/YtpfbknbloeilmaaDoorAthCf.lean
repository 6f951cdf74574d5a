/- A conf of layer 20 (a byte and three numbers) among the arguments. Of no function. -/
import Derived.Test.YtpfbknbloeilmaaDoorAthPure
import Derived.WalkKit
import Derived.ProofKit
import Derived.RowKit
import Derived.Lib.SmallJoins
import Derived.SizedLaws
namespace Go.Proofs.YtpfbknbloeilmaaDoor.Ath
open Go.ChangeShapes Go.WideShapes Go.ChangeAt Go.RowKit Go.Joins Go.Deep

theorem u8_of' {z : Int} (h0 : 0 ≤ z) (h : z ≤ 255) : ∃ c : UInt8, z = (c.toNat : Int) := ⟨UInt8.ofNat z.toNat, by rw [UInt8.toNat_ofNat']; omega⟩
/-- Its numbers are of 64 bits. -/
def Cf.Fits (c : Cf) : Prop := (-9223372036854775808 ≤ c.tries ∧ c.tries ≤ 9223372036854775807) ∧ (-9223372036854775808 ≤ c.wait ∧ c.wait ≤ 9223372036854775807) ∧ (-9223372036854775808 ≤ c.again ∧ c.again ≤ 9223372036854775807)
def cfV (c : Cf) : List Value := [.int .u8 c.kind.toNat, .int .i64 c.tries, .int .i64 c.wait, .int .i64 c.again]
theorem acf_of {H : Type} {enc : TypeId × Value → H} {P : Program} {W : World} {base : Nat} {t : TypeId} {f0 f1 f2 f3 : Field} {v : Value} {d : DataW H} {p : List MemPlace} (ht : P.underlying t = some (.struct #[f0, f1, f2, f3])) (hone : oneCellFields P #[f0, f1, f2, f3] = true) (hC : P.cellsOf t = 4)
    (u0 : P.underlying f0.type = some (.int .u8)) (u1 : P.underlying f1.type = some (.int .i64)) (u2 : P.underlying f2.type = some (.int .i64)) (u3 : P.underlying f3.type = some (.int .i64)) (hv : Value.okWide P W .any base t v) (h : DataW.Trod enc P W 0 (fun _ => true) true t v d p) :
    ∃ c : Cf, v = .agg (cfV c).toArray ∧ c.Fits := by
  obtain ⟨c0, c1, c2, c3, y0, y1, y2, y3, m, rfl, rfl, rfl, hy0, hy1, hy2, hy3⟩ := open_agg4 ht hone hC hv h
  obtain ⟨a, e0, _, w0⟩ := DataW.trod_int u0 hy0
  obtain ⟨b, e1, _, w1⟩ := DataW.trod_int u1 hy1
  obtain ⟨c, e2, _, w2⟩ := DataW.trod_int u2 hy2
  obtain ⟨g, e3, _, w3⟩ := DataW.trod_int u3 hy3
  have b0 := bounds_u8 w0
  have b1 := bounds_i64 w1
  have b2 := bounds_i64 w2
  have b3 := bounds_i64 w3
  obtain ⟨k, rfl⟩ := u8_of' (z := a) (by omega) (by omega)
  simp at e0 e1 e2 e3
  subst e0 e1 e2 e3
  refine ⟨⟨k, b, c, g⟩, rfl, ⟨?_, ?_⟩, ⟨?_, ?_⟩, ?_, ?_⟩
  · show -9223372036854775808 ≤ b; omega
  · show b ≤ 9223372036854775807; omega
  · show -9223372036854775808 ≤ c; omega
  · show c ≤ 9223372036854775807; omega
  · show -9223372036854775808 ≤ g; omega
  · show g ≤ 9223372036854775807; omega
end Go.Proofs.YtpfbknbloeilmaaDoor.Ath
