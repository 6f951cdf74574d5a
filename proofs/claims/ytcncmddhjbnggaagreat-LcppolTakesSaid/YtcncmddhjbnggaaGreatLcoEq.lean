/- '==' of two structs, of two options. -/
import Derived.Test.YtcncmddhjbnggaaGreatLcoA
import Derived.Test.YtcncmddhjbnggaaGreatOptAt
import Derived.Deep.RegionHeld3
import Derived.Maps.AppendAt
namespace Go.Proofs.YtcncmddhjbnggaaGreat.Lco
open Go.RowKit Go.Proofs.YtcncmddhjbnggaaGreat.Oct Go.Proofs.YtcncmddhjbnggaaGreat.Row Go.Proofs.YtcncmddhjbnggaaGreat.Mem Go.Proofs.YtcncmddhjbnggaaGreat.Opt

theorem eqF (P : Program) (w : World) (d : Nat) (xs ys : Array Value) (f : Field) (fs : List Field) (a b : Value) (r : Bool) (hn : (f.name ≠ "_")) (ha : (part f.type xs f.offset).run P w = .ok a w) (hb : (part f.type ys f.offset).run P w = .ok b w) (hr : (Op.equalIn d f.type a b).run P w = .ok r w) (rest : Bool) (hrest : r = true → (Op.eqFields d xs ys fs).run P w = .ok rest w) :
    (Op.eqFields d xs ys (f :: fs)).run P w = .ok (r && rest) w := by
  rw [Op.eqFields]
  rw [if_pos hn]
  simp only [Sem.run_bind, ha, hb, hr, Result.andThen_ok, Sem.run_ite]
  cases r
  · simp
  · simp [hrest rfl]
set_option maxRecDepth 100000 in
theorem lcp_equal (x y : Lcp) (w : World) : (Op.equalIn 10000 37 (.agg #[Value.bool x.hm, .int .u16 x.mru.toNat, .bool x.ha, .int .u32 x.accm.toNat, .int .u8 x.auth.toNat, .bool x.hg, .int .u32 x.magic.toNat, .bool x.pfc, .bool x.acfc]) (.agg #[Value.bool y.hm, .int .u16 y.mru.toNat, .bool y.ha, .int .u32 y.accm.toNat, .int .u8 y.auth.toNat, .bool y.hg, .int .u32 y.magic.toNat, .bool y.pfc, .bool y.acfc])).run Tryz.prog w
    = .ok (x.hm == y.hm && ((x.mru.toNat : Int) == y.mru.toNat && (x.ha == y.ha && ((x.accm.toNat : Int) == y.accm.toNat && ((x.auth.toNat : Int) == y.auth.toNat && (x.hg == y.hg && ((x.magic.toNat : Int) == y.magic.toNat && (x.pfc == y.pfc && (x.acfc == y.acfc && true))))))))) w := by
  rw [run_equalIn_agg w 9999 37 _ _ (by kernel_rfl) (by kernel_rfl)]
  unfold Program.fieldsOf
  rw [Tryz.underlying37]
  dsimp only
  refine eqF _ w 9999 _ _ _ _ (Value.bool x.hm) (Value.bool y.hm) _ (by decide) (by kernel_rfl) (by kernel_rfl) (run_equalIn_bool' w 9998 _ _ _ Tryz.underlying4) _ (fun _ => ?_)
  refine eqF _ w 9999 _ _ _ _ (.int .u16 x.mru.toNat) (.int .u16 y.mru.toNat) _ (by decide) (by kernel_rfl) (by kernel_rfl) (run_equalIn_int w 9998 _ _ _ _ _ Tryz.underlying22) _ (fun _ => ?_)
  refine eqF _ w 9999 _ _ _ _ (.bool x.ha) (.bool y.ha) _ (by decide) (by kernel_rfl) (by kernel_rfl) (run_equalIn_bool' w 9998 _ _ _ Tryz.underlying4) _ (fun _ => ?_)
  refine eqF _ w 9999 _ _ _ _ (.int .u32 x.accm.toNat) (.int .u32 y.accm.toNat) _ (by decide) (by kernel_rfl) (by kernel_rfl) (run_equalIn_int w 9998 _ _ _ _ _ Tryz.underlying23) _ (fun _ => ?_)
  refine eqF _ w 9999 _ _ _ _ (.int .u8 x.auth.toNat) (.int .u8 y.auth.toNat) _ (by decide) (by kernel_rfl) (by kernel_rfl) (run_equalIn_int w 9998 _ _ _ _ _ Tryz.underlying5) _ (fun _ => ?_)
  refine eqF _ w 9999 _ _ _ _ (.bool x.hg) (.bool y.hg) _ (by decide) (by kernel_rfl) (by kernel_rfl) (run_equalIn_bool' w 9998 _ _ _ Tryz.underlying4) _ (fun _ => ?_)
  refine eqF _ w 9999 _ _ _ _ (.int .u32 x.magic.toNat) (.int .u32 y.magic.toNat) _ (by decide) (by kernel_rfl) (by kernel_rfl) (run_equalIn_int w 9998 _ _ _ _ _ Tryz.underlying23) _ (fun _ => ?_)
  refine eqF _ w 9999 _ _ _ _ (.bool x.pfc) (.bool y.pfc) _ (by decide) (by kernel_rfl) (by kernel_rfl) (run_equalIn_bool' w 9998 _ _ _ Tryz.underlying4) _ (fun _ => ?_)
  refine eqF _ w 9999 _ _ _ _ (.bool x.acfc) (.bool y.acfc) _ (by decide) (by kernel_rfl) (by kernel_rfl) (run_equalIn_bool' w 9998 _ _ _ Tryz.underlying4) _ (fun _ => ?_)
  rfl
theorem lcp_dec (x y : Lcp) : (x.hm == y.hm && ((x.mru.toNat : Int) == y.mru.toNat && (x.ha == y.ha && ((x.accm.toNat : Int) == y.accm.toNat && ((x.auth.toNat : Int) == y.auth.toNat && (x.hg == y.hg && ((x.magic.toNat : Int) == y.magic.toNat && (x.pfc == y.pfc && (x.acfc == y.acfc && true))))))))) = decide (x = y) := by
  obtain ⟨a0, a1, a2, a3, a4, a5, a6, a7, a8⟩ := x
  obtain ⟨b0, b1, b2, b3, b4, b5, b6, b7, b8⟩ := y
  have e16 : ∀ a b : UInt16, ((a.toNat : Int) == b.toNat) = decide (a = b) := fun a b => by
    by_cases h : a = b
    · rw [h]; simp
    · rw [decide_eq_false h, beq_eq_false_iff_ne]; intro e; exact h (UInt16.toNat_inj.1 (by omega))
  have e32 : ∀ a b : UInt32, ((a.toNat : Int) == b.toNat) = decide (a = b) := fun a b => by
    by_cases h : a = b
    · rw [h]; simp
    · rw [decide_eq_false h, beq_eq_false_iff_ne]; intro e; exact h (UInt32.toNat_inj.1 (by omega))
  have e8 : ∀ a b : UInt8, ((a.toNat : Int) == b.toNat) = decide (a = b) := fun a b => by
    by_cases h : a = b
    · rw [h]; simp
    · rw [decide_eq_false h, beq_eq_false_iff_ne]; intro e; exact h (UInt8.toNat_inj.1 (by omega))
  simp only [e16, e32, e8, Lcp.mk.injEq]
  rw [Bool.eq_iff_iff]
  simp
theorem lcp_eq {x y : Lcp} {r : Bool} (h : decide (x = y) = r) (w : World) : (Op.equalIn 10000 37 (.agg #[Value.bool x.hm, .int .u16 x.mru.toNat, .bool x.ha, .int .u32 x.accm.toNat, .int .u8 x.auth.toNat, .bool x.hg, .int .u32 x.magic.toNat, .bool x.pfc, .bool x.acfc]) (.agg #[Value.bool y.hm, .int .u16 y.mru.toNat, .bool y.ha, .int .u32 y.accm.toNat, .int .u8 y.auth.toNat, .bool y.hg, .int .u32 y.magic.toNat, .bool y.pfc, .bool y.acfc])).run Tryz.prog w = .ok r w := by rw [lcp_equal, lcp_dec, h]
theorem lcp_eql {x y : Lcp} {r : Bool} (h : decide (x = y) = r) (w : World) : (binOp .eql 37 (.agg #[Value.bool x.hm, .int .u16 x.mru.toNat, .bool x.ha, .int .u32 x.accm.toNat, .int .u8 x.auth.toNat, .bool x.hg, .int .u32 x.magic.toNat, .bool x.pfc, .bool x.acfc]) (.agg #[Value.bool y.hm, .int .u16 y.mru.toNat, .bool y.ha, .int .u32 y.accm.toNat, .int .u8 y.auth.toNat, .bool y.hg, .int .u32 y.magic.toNat, .bool y.pfc, .bool y.acfc])).run Tryz.prog w = .ok (.bool r) w := by rw [run_eql_struct, lcp_eq h]; rfl
theorem lcp_neq {x y : Lcp} {r : Bool} (h : decide (x = y) = r) (w : World) : (binOp .neq 37 (.agg #[Value.bool x.hm, .int .u16 x.mru.toNat, .bool x.ha, .int .u32 x.accm.toNat, .int .u8 x.auth.toNat, .bool x.hg, .int .u32 x.magic.toNat, .bool x.pfc, .bool x.acfc]) (.agg #[Value.bool y.hm, .int .u16 y.mru.toNat, .bool y.ha, .int .u32 y.accm.toNat, .int .u8 y.auth.toNat, .bool y.hg, .int .u32 y.magic.toNat, .bool y.pfc, .bool y.acfc])).run Tryz.prog w = .ok (.bool (!r)) w := by rw [run_neq_struct, lcp_eq h]; rfl
set_option maxRecDepth 100000 in
theorem opt_eq {o p : Opt} {r : Bool} (h : decide (o = p) = r) (w : World) : (Op.equalIn 10000 51 (.agg #[.int .u8 o.1.toNat, .string o.2]) (.agg #[.int .u8 p.1.toNat, .string p.2])).run Tryz.prog w = .ok r w := by
  have e : ((o.1.toNat : Int) == p.1.toNat && ((o.2.toList == p.2.toList) && true)) = r := by
    rw [← h, Bool.eq_iff_iff]
    obtain ⟨t, d⟩ := o
    obtain ⟨t', d'⟩ := p
    simp only [Bool.and_eq_true, beq_iff_eq, decide_eq_true_eq, Prod.mk.injEq, and_true]
    exact ⟨fun ⟨a, b⟩ => ⟨UInt8.toNat_inj.1 (by omega), toList_inj b⟩, fun ⟨a, b⟩ => ⟨by rw [a], by rw [b]⟩⟩
  rw [run_equalIn_agg w 9999 51 _ _ (by kernel_rfl) (by kernel_rfl)]
  unfold Program.fieldsOf
  rw [Tryz.underlying51]
  dsimp only
  rw [← e]
  refine eqF _ w 9999 _ _ _ _ (.int .u8 o.1.toNat) (.int .u8 p.1.toNat) _ (by decide) (by kernel_rfl) (by kernel_rfl) (run_equalIn_int w 9998 _ _ _ _ _ Tryz.underlying5) _ (fun _ => ?_)
  refine eqF _ w 9999 _ _ _ _ (.string o.2) (.string p.2) _ (by decide) (by kernel_rfl) (by kernel_rfl) (run_equalIn_string w 9998 _ _ _ Tryz.underlying9) _ (fun _ => ?_)
  rfl
theorem opt_eql {o p : Opt} {r : Bool} (h : decide (o = p) = r) (w : World) : (binOp .eql 51 (.agg #[.int .u8 o.1.toNat, .string o.2]) (.agg #[.int .u8 p.1.toNat, .string p.2])).run Tryz.prog w = .ok (.bool r) w := by rw [run_eql_struct, opt_eq h]; rfl
end Go.Proofs.YtcncmddhjbnggaaGreat.Lco
