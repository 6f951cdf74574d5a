/- Besides: two structs boxed, the size of what is put. -/
import Derived.Test.YtndpiefdmlhacaaLcoQ
import Derived.Test.YtndpiefdmlhacaaLcoR
import Derived.Deep.RegionHeld3
import Derived.Maps.AppendAt
namespace Go.Proofs.Ytndpiefdmlhacaa.Lco
open Go.RowKit Go.Proofs.Ytndpiefdmlhacaa.Oct Go.Proofs.Ytndpiefdmlhacaa.Row Go.Proofs.Ytndpiefdmlhacaa.Mem Go.Proofs.Ytndpiefdmlhacaa.Opt

theorem own : ownKnob Try.prog.godebug = none := by kernel_rfl
theorem laidOut : laidOutB Try.prog = true := by kernel_rfl
theorem beq_self (s : ByteArray) : (s.toList == s.toList) = true := by simp
theorem boxLL (w : World) (x y : Lcp) : ∃ W, (w.alloc (.cells #[Value.bool x.hm, .int .u16 x.mru.toNat, .bool x.ha, .int .u32 x.accm.toNat, .int .u8 x.auth.toNat, .bool x.hg, .int .u32 x.magic.toNat, .bool x.pfc, .bool x.acfc] 25)).alloc (.cells #[Value.bool y.hm, .int .u16 y.mru.toNat, .bool y.ha, .int .u32 y.accm.toNat, .int .u8 y.auth.toNat, .bool y.hg, .int .u32 y.magic.toNat, .bool y.pfc, .bool y.acfc] 25) = W ∧ Hid (LAt W w.heap.size x ∧ LAt W (w.heap.size + 1) y ∧ Below w.heap.size w W) :=
  ⟨_, rfl, (lat_new w x).alloc _, by have := lat_new (w.alloc (.cells (lv x).toArray 25)) y; rw [show (w.alloc (.cells (lv x).toArray 25)).heap.size = w.heap.size + 1 by simp] at this; exact this, ((Below.refl w.heap.size w).alloc (Nat.le_refl _) _).alloc (by simp) _⟩
theorem wt_small : ∀ (l : List Opt), (∀ o ∈ l, o.2.size ≤ 4) → wt l ≤ 6 * l.length
  | [], _ => Nat.le_refl _
  | o :: l, h => by
    have h1 := wt_small l (fun p hp => h p (List.mem_cons_of_mem _ hp))
    have h2 := h o (List.mem_cons_self ..)
    simp only [wt, List.length_cons]
    omega
theorem pE_put (x : Lcp) : pE (put x) = 0 := by
  refine pE_zero.2 ⟨by have := put_len x; omega, ?_, by have := wt_small _ (put_size x); have := put_len x; omega⟩
  unfold big
  rw [List.any_eq_false]
  intro o ho
  have := put_size x o ho
  simp only [decide_eq_true_eq]
  omega
theorem oput_row (x : Lcp) (A : Option Addr) (c : Nat) (w : World) (hl : Opts w w.heap.size A (put x).length (put x)) : Calls Try.prog 19 #[.slice A (put x).length c] w fun e w' => e = .returned (.tuple #[.string (bOf (pA (put x))), .int .i64 0]) ∧ Below w.heap.size w w' := by
  have h := put_any (put x) _ A _ c w hl (by have := put_len x; unfold maxLen; omega) (Nat.le_refl _)
  rw [pE_put] at h
  exact h
theorem pA_apart {x y : Lcp} (hx : may x = true) (hy : may y = true) (h : ¬ x = y) : (bOf (pA (put x))).toList ≠ (bOf (pA (put y))).toList := by
  intro e
  rw [toList_bOf, toList_bOf] at e
  have h1 := got_enc (pE_put x)
  rw [e, got_enc (pE_put y)] at h1
  exact h (put_inj hx hy (congrArg Prod.fst h1).symm)
theorem put_apart {x y : Lcp} (hx : may x = true) (hy : may y = true) (h : ¬ x = y) : sm (put x) (put y) = false := by
  unfold sm
  exact decide_eq_false fun e => h (put_inj hx hy e)
theorem eqF (P : Program) (w : World) (d : Nat) (xs ys : Array Value) (f : Field) (fs : List Field) (a b : Value) (r : Bool) (hn : (f.name ≠ "_")) (ha : (part f.type xs f.offset).run P w = .ok a w) (hb : (part f.type ys f.offset).run P w = .ok b w) (hr : (Op.equalIn d f.type a b).run P w = .ok r w) (rest : Bool) (hrest : r = true → (Op.eqFields d xs ys fs).run P w = .ok rest w) :
    (Op.eqFields d xs ys (f :: fs)).run P w = .ok (r && rest) w := by
  rw [Op.eqFields]
  rw [if_pos hn]
  simp only [Sem.run_bind, ha, hb, hr, Result.andThen_ok, Sem.run_ite]
  cases r
  · simp
  · simp [hrest rfl]
set_option maxRecDepth 100000 in
theorem lcp_equal (x y : Lcp) (w : World) : (Op.equalIn 10000 25 (.agg #[Value.bool x.hm, .int .u16 x.mru.toNat, .bool x.ha, .int .u32 x.accm.toNat, .int .u8 x.auth.toNat, .bool x.hg, .int .u32 x.magic.toNat, .bool x.pfc, .bool x.acfc]) (.agg #[Value.bool y.hm, .int .u16 y.mru.toNat, .bool y.ha, .int .u32 y.accm.toNat, .int .u8 y.auth.toNat, .bool y.hg, .int .u32 y.magic.toNat, .bool y.pfc, .bool y.acfc])).run Try.prog w
    = .ok (x.hm == y.hm && ((x.mru.toNat : Int) == y.mru.toNat && (x.ha == y.ha && ((x.accm.toNat : Int) == y.accm.toNat && ((x.auth.toNat : Int) == y.auth.toNat && (x.hg == y.hg && ((x.magic.toNat : Int) == y.magic.toNat && (x.pfc == y.pfc && (x.acfc == y.acfc && true))))))))) w := by
  rw [run_equalIn_agg w 9999 25 _ _ (by kernel_rfl) (by kernel_rfl)]
  unfold Program.fieldsOf
  rw [Try.underlying25]
  dsimp only
  refine eqF _ w 9999 _ _ _ _ (Value.bool x.hm) (Value.bool y.hm) _ (by decide) (by kernel_rfl) (by kernel_rfl) (run_equalIn_bool' w 9998 _ _ _ Try.underlying4) _ (fun _ => ?_)
  refine eqF _ w 9999 _ _ _ _ (.int .u16 x.mru.toNat) (.int .u16 y.mru.toNat) _ (by decide) (by kernel_rfl) (by kernel_rfl) (run_equalIn_int w 9998 _ _ _ _ _ Try.underlying22) _ (fun _ => ?_)
  refine eqF _ w 9999 _ _ _ _ (.bool x.ha) (.bool y.ha) _ (by decide) (by kernel_rfl) (by kernel_rfl) (run_equalIn_bool' w 9998 _ _ _ Try.underlying4) _ (fun _ => ?_)
  refine eqF _ w 9999 _ _ _ _ (.int .u32 x.accm.toNat) (.int .u32 y.accm.toNat) _ (by decide) (by kernel_rfl) (by kernel_rfl) (run_equalIn_int w 9998 _ _ _ _ _ Try.underlying23) _ (fun _ => ?_)
  refine eqF _ w 9999 _ _ _ _ (.int .u8 x.auth.toNat) (.int .u8 y.auth.toNat) _ (by decide) (by kernel_rfl) (by kernel_rfl) (run_equalIn_int w 9998 _ _ _ _ _ Try.underlying5) _ (fun _ => ?_)
  refine eqF _ w 9999 _ _ _ _ (.bool x.hg) (.bool y.hg) _ (by decide) (by kernel_rfl) (by kernel_rfl) (run_equalIn_bool' w 9998 _ _ _ Try.underlying4) _ (fun _ => ?_)
  refine eqF _ w 9999 _ _ _ _ (.int .u32 x.magic.toNat) (.int .u32 y.magic.toNat) _ (by decide) (by kernel_rfl) (by kernel_rfl) (run_equalIn_int w 9998 _ _ _ _ _ Try.underlying23) _ (fun _ => ?_)
  refine eqF _ w 9999 _ _ _ _ (.bool x.pfc) (.bool y.pfc) _ (by decide) (by kernel_rfl) (by kernel_rfl) (run_equalIn_bool' w 9998 _ _ _ Try.underlying4) _ (fun _ => ?_)
  refine eqF _ w 9999 _ _ _ _ (.bool x.acfc) (.bool y.acfc) _ (by decide) (by kernel_rfl) (by kernel_rfl) (run_equalIn_bool' w 9998 _ _ _ Try.underlying4) _ (fun _ => ?_)
  rfl
theorem lcp_dec (x y : Lcp) : (x.hm == y.hm && ((x.mru.toNat : Int) == y.mru.toNat && (x.ha == y.ha && ((x.accm.toNat : Int) == y.accm.toNat && ((x.auth.toNat : Int) == y.auth.toNat && (x.hg == y.hg && ((x.magic.toNat : Int) == y.magic.toNat && (x.pfc == y.pfc && (x.acfc == y.acfc && true))))))))) = decide (x = y) := by
  obtain ⟨a0, a1, a2, a3, a4, a5, a6, a7, a8⟩ := x
  obtain ⟨b0, b1, b2, b3, b4, b5, b6, b7, b8⟩ := y
  have e16 : ∀ a b : UInt16, ((a.toNat : Int) == b.toNat) = decide (a = b) := fun a b => by
    by_cases h : a = b
    · rw [h]; simp
    · rw [decide_eq_false h, beq_eq_false_iff_ne]; intro e; exact h (UInt16.toNat_inj.1 (by omega))
  have e32 : ∀ a b : UInt32, ((a.toNat : Int) == b.toNat) = decide (a = b) := fun a b => by
    by_cases h : a = b
    · rw [h]; simp
    · rw [decide_eq_false h, beq_eq_false_iff_ne]; intro e; exact h (UInt32.toNat_inj.1 (by omega))
  have e8 : ∀ a b : UInt8, ((a.toNat : Int) == b.toNat) = decide (a = b) := fun a b => by
    by_cases h : a = b
    · rw [h]; simp
    · rw [decide_eq_false h, beq_eq_false_iff_ne]; intro e; exact h (UInt8.toNat_inj.1 (by omega))
  simp only [e16, e32, e8, Lcp.mk.injEq]
  rw [Bool.eq_iff_iff]
  simp
theorem lcp_eq {x y : Lcp} {r : Bool} (h : decide (x = y) = r) (w : World) : (Op.equalIn 10000 25 (.agg #[Value.bool x.hm, .int .u16 x.mru.toNat, .bool x.ha, .int .u32 x.accm.toNat, .int .u8 x.auth.toNat, .bool x.hg, .int .u32 x.magic.toNat, .bool x.pfc, .bool x.acfc]) (.agg #[Value.bool y.hm, .int .u16 y.mru.toNat, .bool y.ha, .int .u32 y.accm.toNat, .int .u8 y.auth.toNat, .bool y.hg, .int .u32 y.magic.toNat, .bool y.pfc, .bool y.acfc])).run Try.prog w = .ok r w := by rw [lcp_equal, lcp_dec, h]
theorem lcp_eql {x y : Lcp} {r : Bool} (h : decide (x = y) = r) (w : World) : (binOp .eql 25 (.agg #[Value.bool x.hm, .int .u16 x.mru.toNat, .bool x.ha, .int .u32 x.accm.toNat, .int .u8 x.auth.toNat, .bool x.hg, .int .u32 x.magic.toNat, .bool x.pfc, .bool x.acfc]) (.agg #[Value.bool y.hm, .int .u16 y.mru.toNat, .bool y.ha, .int .u32 y.accm.toNat, .int .u8 y.auth.toNat, .bool y.hg, .int .u32 y.magic.toNat, .bool y.pfc, .bool y.acfc])).run Try.prog w = .ok (.bool r) w := by rw [run_eql_struct, lcp_eq h]; rfl
theorem lcp_neq {x y : Lcp} {r : Bool} (h : decide (x = y) = r) (w : World) : (binOp .neq 25 (.agg #[Value.bool x.hm, .int .u16 x.mru.toNat, .bool x.ha, .int .u32 x.accm.toNat, .int .u8 x.auth.toNat, .bool x.hg, .int .u32 x.magic.toNat, .bool x.pfc, .bool x.acfc]) (.agg #[Value.bool y.hm, .int .u16 y.mru.toNat, .bool y.ha, .int .u32 y.accm.toNat, .int .u8 y.auth.toNat, .bool y.hg, .int .u32 y.magic.toNat, .bool y.pfc, .bool y.acfc])).run Try.prog w = .ok (.bool (!r)) w := by rw [run_neq_struct, lcp_eq h]; rfl
end Go.Proofs.Ytndpiefdmlhacaa.Lco
