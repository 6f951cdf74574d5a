/- '==' of two options, as facts for all worlds. -/
import Derived.Test.YtgefodpnhifmdaaGreatEqF
import Derived.Test.YtgefodpnhifmdaaGreatGOpts
namespace Go.Proofs.YtgefodpnhifmdaaGreat.Opt
open Go.RowKit Go.Proofs.YtgefodpnhifmdaaGreat.Oct Go.Proofs.YtgefodpnhifmdaaGreat.Row Go.Proofs.YtgefodpnhifmdaaGreat.Mem

set_option maxRecDepth 100000 in
theorem opt_eq {o p : Opt} {r : Bool} (h : decide (o = p) = r) (w : World) : (Op.equalIn 10000 157 (.agg #[.int .u8 o.1.toNat, .string o.2]) (.agg #[.int .u8 p.1.toNat, .string p.2])).run Tryz.prog w = .ok r w := by
  have e : ((o.1.toNat : Int) == p.1.toNat && ((o.2.toList == p.2.toList) && true)) = r := by
    rw [← h, Bool.eq_iff_iff]
    obtain ⟨t, d⟩ := o
    obtain ⟨t', d'⟩ := p
    simp only [Bool.and_eq_true, beq_iff_eq, decide_eq_true_eq, Prod.mk.injEq, and_true]
    exact ⟨fun ⟨a, b⟩ => ⟨UInt8.toNat_inj.1 (by omega), toList_inj b⟩, fun ⟨a, b⟩ => ⟨by rw [a], by rw [b]⟩⟩
  rw [run_equalIn_agg w 9999 157 _ _ (by kernel_rfl) (by kernel_rfl)]
  unfold Program.fieldsOf
  rw [Tryz.underlying157]
  dsimp only
  rw [← e]
  refine eqF _ w 9999 _ _ _ _ (.int .u8 o.1.toNat) (.int .u8 p.1.toNat) _ (by decide) (by kernel_rfl) (by kernel_rfl) (run_equalIn_int w 9998 _ _ _ _ _ Tryz.underlying5) _ (fun _ => ?_)
  refine eqF _ w 9999 _ _ _ _ (.string o.2) (.string p.2) _ (by decide) (by kernel_rfl) (by kernel_rfl) (run_equalIn_string w 9998 _ _ _ Tryz.underlying9) _ (fun _ => ?_)
  rfl
theorem opt_eql {o p : Opt} {r : Bool} (h : decide (o = p) = r) (w : World) : (binOp .eql 157 (.agg #[.int .u8 o.1.toNat, .string o.2]) (.agg #[.int .u8 p.1.toNat, .string p.2])).run Tryz.prog w = .ok (.bool r) w := by rw [run_eql_struct, opt_eq h]; rfl
end Go.Proofs.YtgefodpnhifmdaaGreat.Opt
