/- '==' of two packets, as facts. Of no function. -/
import Derived.Test.YtpfbknbloeilmaaDoorProg
import Derived.Test.YtpfbknbloeilmaaDoorPure
import Derived.Test.YtpfbknbloeilmaaDoorEqF
namespace Go.Proofs.YtpfbknbloeilmaaDoor.Mem
open Go.RowKit Go.Proofs.YtpfbknbloeilmaaDoor.Oct

set_option maxRecDepth 100000 in
theorem pk_eq {c c' i i' : UInt8} {s s' : ByteArray} {r : Bool} (h : decide (c = c' ∧ i = i' ∧ s = s') = r) (w : World) : (Op.equalIn 10000 46 (.agg #[.int .u8 c.toNat, .int .u8 i.toNat, .string s]) (.agg #[.int .u8 c'.toNat, .int .u8 i'.toNat, .string s'])).run Tryd.prog w = .ok r w := by
  have e : ((c.toNat : Int) == c'.toNat && ((i.toNat : Int) == i'.toNat && ((s.toList == s'.toList) && true))) = r := by
    rw [← h, Bool.eq_iff_iff]
    simp only [Bool.and_eq_true, beq_iff_eq, decide_eq_true_eq, and_true]
    exact ⟨fun ⟨a, b, d⟩ => ⟨UInt8.toNat_inj.1 (by omega), UInt8.toNat_inj.1 (by omega), toList_inj d⟩, fun ⟨a, b, d⟩ => ⟨by rw [a], by rw [b], by rw [d]⟩⟩
  rw [run_equalIn_agg w 9999 46 _ _ (by kernel_rfl) (by kernel_rfl)]
  unfold Program.fieldsOf
  rw [Tryd.underlying46]
  dsimp only
  rw [← e]
  refine eqF _ w 9999 _ _ _ _ (.int .u8 c.toNat) (.int .u8 c'.toNat) _ (by decide) (by kernel_rfl) (by kernel_rfl) (run_equalIn_int w 9998 _ _ _ _ _ Tryd.underlying5) _ (fun _ => ?_)
  refine eqF _ w 9999 _ _ _ _ (.int .u8 i.toNat) (.int .u8 i'.toNat) _ (by decide) (by kernel_rfl) (by kernel_rfl) (run_equalIn_int w 9998 _ _ _ _ _ Tryd.underlying5) _ (fun _ => ?_)
  refine eqF _ w 9999 _ _ _ _ (.string s) (.string s') _ (by decide) (by kernel_rfl) (by kernel_rfl) (run_equalIn_string w 9998 _ _ _ Tryd.underlying9) _ (fun _ => ?_)
  rfl
theorem pk_eql {c c' i i' : UInt8} {s s' : ByteArray} {r : Bool} (h : decide (c = c' ∧ i = i' ∧ s = s') = r) (w : World) : (binOp .eql 46 (.agg #[.int .u8 c.toNat, .int .u8 i.toNat, .string s]) (.agg #[.int .u8 c'.toNat, .int .u8 i'.toNat, .string s'])).run Tryd.prog w = .ok (.bool r) w := by rw [run_eql_struct, pk_eq h]; rfl
theorem pk_neq {c c' i i' : UInt8} {s s' : ByteArray} {r : Bool} (h : decide (c = c' ∧ i = i' ∧ s = s') = r) (w : World) : (binOp .neq 46 (.agg #[.int .u8 c.toNat, .int .u8 i.toNat, .string s]) (.agg #[.int .u8 c'.toNat, .int .u8 i'.toNat, .string s'])).run Tryd.prog w = .ok (.bool (!r)) w := by rw [run_neq_struct, pk_eq h]; rfl
theorem pk_same (c i : UInt8) (s : ByteArray) : decide (c = c ∧ i = i ∧ s = s) = true := by simp
end Go.Proofs.YtpfbknbloeilmaaDoor.Mem
