/- An option by value among the arguments; numbers of a kind. Of no program. -/
import Derived.Test.YtgefodpnhifmdaaGreatGOpts
import Derived.WalkKit
import Derived.ProofKit
import Derived.RowKit
import Derived.Lib.SmallJoins
import Derived.SizedLaws
namespace Go.Proofs.YtgefodpnhifmdaaGreat.Opt
open Go.ChangeShapes Go.WideShapes Go.ChangeAt Go.RowKit Go.Joins Go.Deep Go.Proofs.YtgefodpnhifmdaaGreat.Oct

theorem u16_of {z : Int} (h : 0 ≤ z ∧ z ≤ 65535) : ∃ c : UInt16, z = (c.toNat : Int) := ⟨UInt16.ofNat z.toNat, by rw [UInt16.toNat_ofNat']; omega⟩
theorem u32_of {z : Int} (h : 0 ≤ z ∧ z ≤ 4294967295) : ∃ c : UInt32, z = (c.toNat : Int) := ⟨UInt32.ofNat z.toNat, by rw [UInt32.toNat_ofNat']; omega⟩
theorem opt_of {H : Type} {enc : TypeId × Value → H} {P : Program} {W : World} {base : Nat} {t : TypeId} {f0 f1 : Field} {v : Value} {d : DataW H} {p : List MemPlace} (ht : P.underlying t = some (.struct #[f0, f1])) (hone : oneCellFields P #[f0, f1] = true) (hC : P.cellsOf t = 2)
    (u0 : P.underlying f0.type = some (.int .u8)) (u1 : P.underlying f1.type = some .string) (hv : Value.okWide P W .any base t v) (h : DataW.Trod enc P W 0 (fun _ => true) true t v d p) (hsz : ∀ n ∈ d.weights P t, n ≤ reachBytes) :
    ∃ (c : UInt8) (s : ByteArray), v = .agg #[.int .u8 c.toNat, .string s] ∧ s.size ≤ 140737488351232 := by
  obtain ⟨c0, c1, y0, y1, m, rfl, rfl, rfl, hy0, hy1⟩ := open_agg2 ht hone hC hv h
  obtain ⟨a, e0, _, w0⟩ := DataW.trod_int u0 hy0
  obtain ⟨s, e1, r1, _⟩ := DataW.trod_string u1 hy1
  obtain ⟨c, rfl⟩ := u8_of (bounds_u8 w0).1 (bounds_u8 w0).2
  simp at e0 e1
  subst e0 e1
  refine ⟨c, s, rfl, ?_⟩
  have hw : s.data.toList.length ∈ (DataW.agg [y0.1, y1.1]).weights P t := by
    unfold DataW.weights
    rw [ht]
    refine DataW.weights_mem_each (j := 1) (t := f1.type) rfl (d := .lit (.string s.data.toList)) ?_ _ ?_
    · rw [r1]; rfl
    · unfold DataW.weights; simp
  have h2 := hsz _ hw
  rw [Array.length_toList] at h2
  exact h2
end Go.Proofs.YtgefodpnhifmdaaGreat.Opt
