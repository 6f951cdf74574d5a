/- A struct of six cells (api.Ipcp) among the arguments; '==' of two of it. -/
import Derived.Test.YtgefodpnhifmdaaGreatGIpcA
import Derived.Test.YtgefodpnhifmdaaGreatOptOf
import Derived.Test.YtgefodpnhifmdaaGreatEqF
namespace Go.Proofs.YtgefodpnhifmdaaGreat.Ipc
open Go.ChangeShapes Go.WideShapes Go.ChangeAt Go.RowKit Go.Joins Go.Deep Go.Proofs.YtgefodpnhifmdaaGreat.Oct Go.Proofs.YtgefodpnhifmdaaGreat.Opt Go.Proofs.YtgefodpnhifmdaaGreat.Mem

theorem ipc_of {H : Type} {enc : TypeId × Value → H} {P : Program} {W : World} {base : Nat} {t : TypeId} {f0 f1 f2 f3 f4 f5 : Field} {v : Value} {d : DataW H} {p : List MemPlace} (ht : P.underlying t = some (.struct #[f0, f1, f2, f3, f4, f5])) (hone : oneCellFields P #[f0, f1, f2, f3, f4, f5] = true) (hC : P.cellsOf t = 6)
    (u0 : P.underlying f0.type = some .bool) (u1 : P.underlying f1.type = some (.int .u32)) (u2 : P.underlying f2.type = some .bool) (u3 : P.underlying f3.type = some (.int .u32)) (u4 : P.underlying f4.type = some .bool) (u5 : P.underlying f5.type = some (.int .u32)) (hv : Value.okWide P W .any base t v) (h : DataW.Trod enc P W 0 (fun _ => true) true t v d p) : ∃ x : Ipc, v = .agg (lv x).toArray := by
  obtain ⟨cs, rfl, hsz⟩ := okWide_struct ht hv
  obtain ⟨c0, c1, c2, c3, c4, c5, rfl⟩ : ∃ c0 c1 c2 c3 c4 c5, cs = #[c0, c1, c2, c3, c4, c5] := by
    have h2 := hsz.trans hC
    obtain ⟨l⟩ := cs
    match l, h2 with
    | [c0, c1, c2, c3, c4, c5], _ => exact ⟨c0, c1, c2, c3, c4, c5, rfl⟩
  obtain ⟨fuel, hf⟩ := h
  obtain ⟨xs, n, _, _, _, hxl, hg⟩ := DataW.trod_struct ht hf
  have key : ∀ (i : Nat) (f : Field) (u : Value), (#[f0, f1, f2, f3, f4, f5] : Array Field)[i]? = some f → [c0, c1, c2, c3, c4, c5][i]? = some u → ∃ y, DataW.trod enc P W 0 (fun _ => true) true n f.type [u] = some y := by
    intro i f u hfi hu
    obtain ⟨ho, hk⟩ := hone_of hone i f hfi
    have hi : i < 6 := (List.getElem?_eq_some_iff.1 hu).1
    have h1 := hg i f hfi
    have hc : ((Value.agg #[c0, c1, c2, c3, c4, c5]).cells.toList.drop i).take 1 = [u] := by rw [show (Value.agg #[c0, c1, c2, c3, c4, c5]).cells.toList = [c0, c1, c2, c3, c4, c5] by simp [Value.cells]]; exact take_one (l := [c0, c1, c2, c3, c4, c5]) hu
    rw [ho, hk, hc] at h1
    have hl : i < xs.length := by rw [hxl]; exact hi
    exact ⟨_, h1.trans (List.getElem?_eq_getElem hl)⟩
  obtain ⟨y0, t0⟩ := key 0 f0 c0 rfl rfl
  obtain ⟨b0, e0, _⟩ := DataW.trod_bool u0 t0
  obtain ⟨y1, t1⟩ := key 1 f1 c1 rfl rfl
  obtain ⟨z1, e1, _, w1⟩ := DataW.trod_int u1 t1
  obtain ⟨y2, t2⟩ := key 2 f2 c2 rfl rfl
  obtain ⟨b2, e2, _⟩ := DataW.trod_bool u2 t2
  obtain ⟨y3, t3⟩ := key 3 f3 c3 rfl rfl
  obtain ⟨z3, e3, _, w3⟩ := DataW.trod_int u3 t3
  obtain ⟨y4, t4⟩ := key 4 f4 c4 rfl rfl
  obtain ⟨b4, e4, _⟩ := DataW.trod_bool u4 t4
  obtain ⟨y5, t5⟩ := key 5 f5 c5 rfl rfl
  obtain ⟨z5, e5, _, w5⟩ := DataW.trod_int u5 t5
  obtain ⟨b1, rfl⟩ := u32_of (bounds_u32 w1)
  obtain ⟨b3, rfl⟩ := u32_of (bounds_u32 w3)
  obtain ⟨b5, rfl⟩ := u32_of (bounds_u32 w5)
  simp at e0 e1 e2 e3 e4 e5
  subst e0 e1 e2 e3 e4 e5
  exact ⟨⟨b0, b1, b2, b3, b4, b5⟩, rfl⟩
set_option maxRecDepth 100000 in
theorem ipc_equal (x y : Ipc) (w : World) : (Op.equalIn 10000 40 (.agg #[Value.bool x.ha, .int .u32 x.addr.toNat, .bool x.h1, .int .u32 x.dns1.toNat, .bool x.h2, .int .u32 x.dns2.toNat]) (.agg #[Value.bool y.ha, .int .u32 y.addr.toNat, .bool y.h1, .int .u32 y.dns1.toNat, .bool y.h2, .int .u32 y.dns2.toNat])).run Tryz.prog w
    = .ok (x.ha == y.ha && ((x.addr.toNat : Int) == y.addr.toNat && (x.h1 == y.h1 && ((x.dns1.toNat : Int) == y.dns1.toNat && (x.h2 == y.h2 && ((x.dns2.toNat : Int) == y.dns2.toNat && true)))))) w := by
  rw [run_equalIn_agg w 9999 40 _ _ (by kernel_rfl) (by kernel_rfl)]
  unfold Program.fieldsOf
  rw [Tryz.underlying40]
  dsimp only
  refine eqF _ w 9999 _ _ _ _ (Value.bool x.ha) (Value.bool y.ha) _ (by decide) (by kernel_rfl) (by kernel_rfl) (run_equalIn_bool' w 9998 _ _ _ Tryz.underlying4) _ (fun _ => ?_)
  refine eqF _ w 9999 _ _ _ _ (Value.int .u32 x.addr.toNat) (Value.int .u32 y.addr.toNat) _ (by decide) (by kernel_rfl) (by kernel_rfl) (run_equalIn_int w 9998 _ _ _ _ _ Tryz.underlying22) _ (fun _ => ?_)
  refine eqF _ w 9999 _ _ _ _ (Value.bool x.h1) (Value.bool y.h1) _ (by decide) (by kernel_rfl) (by kernel_rfl) (run_equalIn_bool' w 9998 _ _ _ Tryz.underlying4) _ (fun _ => ?_)
  refine eqF _ w 9999 _ _ _ _ (Value.int .u32 x.dns1.toNat) (Value.int .u32 y.dns1.toNat) _ (by decide) (by kernel_rfl) (by kernel_rfl) (run_equalIn_int w 9998 _ _ _ _ _ Tryz.underlying22) _ (fun _ => ?_)
  refine eqF _ w 9999 _ _ _ _ (Value.bool x.h2) (Value.bool y.h2) _ (by decide) (by kernel_rfl) (by kernel_rfl) (run_equalIn_bool' w 9998 _ _ _ Tryz.underlying4) _ (fun _ => ?_)
  refine eqF _ w 9999 _ _ _ _ (Value.int .u32 x.dns2.toNat) (Value.int .u32 y.dns2.toNat) _ (by decide) (by kernel_rfl) (by kernel_rfl) (run_equalIn_int w 9998 _ _ _ _ _ Tryz.underlying22) _ (fun _ => ?_)
  rfl
theorem ipc_dec (x y : Ipc) : (x.ha == y.ha && ((x.addr.toNat : Int) == y.addr.toNat && (x.h1 == y.h1 && ((x.dns1.toNat : Int) == y.dns1.toNat && (x.h2 == y.h2 && ((x.dns2.toNat : Int) == y.dns2.toNat && true)))))) = decide (x = y) := by
  obtain ⟨a0, a1, a2, a3, a4, a5⟩ := x
  obtain ⟨b0, b1, b2, b3, b4, b5⟩ := y
  have e_u32 : ∀ a b : UInt32, ((a.toNat : Int) == b.toNat) = decide (a = b) := fun a b => by
    by_cases h : a = b
    · rw [h]; simp
    · rw [decide_eq_false h, beq_eq_false_iff_ne]; intro e; exact h (UInt32.toNat_inj.1 (by omega))
  simp only [e_u32, Ipc.mk.injEq]
  rw [Bool.eq_iff_iff]
  simp
theorem ipc_eq {x y : Ipc} {r : Bool} (h : decide (x = y) = r) (w : World) : (Op.equalIn 10000 40 (.agg #[Value.bool x.ha, .int .u32 x.addr.toNat, .bool x.h1, .int .u32 x.dns1.toNat, .bool x.h2, .int .u32 x.dns2.toNat]) (.agg #[Value.bool y.ha, .int .u32 y.addr.toNat, .bool y.h1, .int .u32 y.dns1.toNat, .bool y.h2, .int .u32 y.dns2.toNat])).run Tryz.prog w = .ok r w := by rw [ipc_equal, ipc_dec, h]
theorem ipc_eql {x y : Ipc} {r : Bool} (h : decide (x = y) = r) (w : World) : (binOp .eql 40 (.agg #[Value.bool x.ha, .int .u32 x.addr.toNat, .bool x.h1, .int .u32 x.dns1.toNat, .bool x.h2, .int .u32 x.dns2.toNat]) (.agg #[Value.bool y.ha, .int .u32 y.addr.toNat, .bool y.h1, .int .u32 y.dns1.toNat, .bool y.h2, .int .u32 y.dns2.toNat])).run Tryz.prog w = .ok (.bool r) w := by rw [run_eql_struct, ipc_eq h]; rfl
theorem ipc_neq {x y : Ipc} {r : Bool} (h : decide (x = y) = r) (w : World) : (binOp .neq 40 (.agg #[Value.bool x.ha, .int .u32 x.addr.toNat, .bool x.h1, .int .u32 x.dns1.toNat, .bool x.h2, .int .u32 x.dns2.toNat]) (.agg #[Value.bool y.ha, .int .u32 y.addr.toNat, .bool y.h1, .int .u32 y.dns1.toNat, .bool y.h2, .int .u32 y.dns2.toNat])).run Tryz.prog w = .ok (.bool (!r)) w := by rw [run_neq_struct, ipc_eq h]; rfl
end Go.Proofs.YtgefodpnhifmdaaGreat.Ipc
