/- Put together: EqF, PktEq. -/
import Derived.WalkKit
import Derived.Deep.Fields
import Derived.Maps.AppendAt
import Derived.Deep.RegionHeld3
import Derived.Test.YtpppggicihfbgaaGreatProg
import Derived.Test.YtpppggicihfbgaaGreatGPure

/- '==' of two structs, field by field. Of no program. -/
namespace Go.Proofs.YtpppggicihfbgaaGreat.Mem
open Go.RowKit
theorem eqF (P : Program) (w : World) (d : Nat) (xs ys : Array Value) (f : Field) (fs : List Field) (a b : Value) (r : Bool) (hn : (f.name ≠ "_")) (ha : (part f.type xs f.offset).run P w = .ok a w) (hb : (part f.type ys f.offset).run P w = .ok b w) (hr : (Op.equalIn d f.type a b).run P w = .ok r w) (rest : Bool) (hrest : r = true → (Op.eqFields d xs ys fs).run P w = .ok rest w) :
    (Op.eqFields d xs ys (f :: fs)).run P w = .ok (r && rest) w := by
  rw [Op.eqFields]
  rw [if_pos hn]
  simp only [Sem.run_bind, ha, hb, hr, Result.andThen_ok, Sem.run_ite]
  cases r
  · simp
  · simp [hrest rfl]
end Go.Proofs.YtpppggicihfbgaaGreat.Mem

/- '==' of two packets, as facts. Of no function. -/
namespace Go.Proofs.YtpppggicihfbgaaGreat.Mem
open Go.RowKit Go.Proofs.YtpppggicihfbgaaGreat.Oct

set_option maxRecDepth 100000 in
theorem pk_eq {c c' i i' : UInt8} {s s' : ByteArray} {r : Bool} (h : decide (c = c' ∧ i = i' ∧ s = s') = r) (w : World) : (Op.equalIn 10000 56 (.agg #[.int .u8 c.toNat, .int .u8 i.toNat, .string s]) (.agg #[.int .u8 c'.toNat, .int .u8 i'.toNat, .string s'])).run Tryz.prog w = .ok r w := by
  have e : ((c.toNat : Int) == c'.toNat && ((i.toNat : Int) == i'.toNat && ((s.toList == s'.toList) && true))) = r := by
    rw [← h, Bool.eq_iff_iff]
    simp only [Bool.and_eq_true, beq_iff_eq, decide_eq_true_eq, and_true]
    exact ⟨fun ⟨a, b, d⟩ => ⟨UInt8.toNat_inj.1 (by omega), UInt8.toNat_inj.1 (by omega), toList_inj d⟩, fun ⟨a, b, d⟩ => ⟨by rw [a], by rw [b], by rw [d]⟩⟩
  rw [run_equalIn_agg w 9999 56 _ _ (by kernel_rfl) (by kernel_rfl)]
  unfold Program.fieldsOf
  rw [Tryz.underlying56]
  dsimp only
  rw [← e]
  refine eqF _ w 9999 _ _ _ _ (.int .u8 c.toNat) (.int .u8 c'.toNat) _ (by decide) (by kernel_rfl) (by kernel_rfl) (run_equalIn_int w 9998 _ _ _ _ _ Tryz.underlying5) _ (fun _ => ?_)
  refine eqF _ w 9999 _ _ _ _ (.int .u8 i.toNat) (.int .u8 i'.toNat) _ (by decide) (by kernel_rfl) (by kernel_rfl) (run_equalIn_int w 9998 _ _ _ _ _ Tryz.underlying5) _ (fun _ => ?_)
  refine eqF _ w 9999 _ _ _ _ (.string s) (.string s') _ (by decide) (by kernel_rfl) (by kernel_rfl) (run_equalIn_string w 9998 _ _ _ Tryz.underlying9) _ (fun _ => ?_)
  rfl
theorem pk_neq {c c' i i' : UInt8} {s s' : ByteArray} {r : Bool} (h : decide (c = c' ∧ i = i' ∧ s = s') = r) (w : World) : (binOp .neq 56 (.agg #[.int .u8 c.toNat, .int .u8 i.toNat, .string s]) (.agg #[.int .u8 c'.toNat, .int .u8 i'.toNat, .string s'])).run Tryz.prog w = .ok (.bool (!r)) w := by rw [run_neq_struct, pk_eq h]; rfl
theorem pk_same (c i : UInt8) (s : ByteArray) : decide (c = c ∧ i = i ∧ s = s) = true := by simp
end Go.Proofs.YtpppggicihfbgaaGreat.Mem
