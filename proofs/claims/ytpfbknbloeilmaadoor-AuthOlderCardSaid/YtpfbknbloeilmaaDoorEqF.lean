/- '==' of two structs, field by field. Of no program. -/
import Derived.WalkKit
import Derived.Deep.Fields
import Derived.Maps.AppendAt
import Derived.Deep.RegionHeld3
namespace Go.Proofs.YtpfbknbloeilmaaDoor.Mem
open Go.RowKit
theorem eqF (P : Program) (w : World) (d : Nat) (xs ys : Array Value) (f : Field) (fs : List Field) (a b : Value) (r : Bool) (hn : (f.name ≠ "_")) (ha : (part f.type xs f.offset).run P w = .ok a w) (hb : (part f.type ys f.offset).run P w = .ok b w) (hr : (Op.equalIn d f.type a b).run P w = .ok r w) (rest : Bool) (hrest : r = true → (Op.eqFields d xs ys fs).run P w = .ok rest w) :
    (Op.eqFields d xs ys (f :: fs)).run P w = .ok (r && rest) w := by
  rw [Op.eqFields]
  rw [if_pos hn]
  simp only [Sem.run_bind, ha, hb, hr, Result.andThen_ok, Sem.run_ite]
  cases r
  · simp
  · simp [hrest rfl]
end Go.Proofs.YtpfbknbloeilmaaDoor.Mem
