/- Put together: LcoEq, PolE. -/
import Derived.Test.YtpohcejgblahiaaGreatGLcoA
import Derived.Test.YtpohcejgblahiaaGreatOptAt
import Derived.Deep.RegionHeld3
import Derived.Maps.AppendAt

/- '==' of two structs, of two options. -/
namespace Go.Proofs.YtpohcejgblahiaaGreat.Lco
open Go.RowKit Go.Proofs.YtpohcejgblahiaaGreat.Oct Go.Proofs.YtpohcejgblahiaaGreat.Row Go.Proofs.YtpohcejgblahiaaGreat.Mem Go.Proofs.YtpohcejgblahiaaGreat.Opt

theorem eqF (P : Program) (w : World) (d : Nat) (xs ys : Array Value) (f : Field) (fs : List Field) (a b : Value) (r : Bool) (hn : (f.name ≠ "_")) (ha : (part f.type xs f.offset).run P w = .ok a w) (hb : (part f.type ys f.offset).run P w = .ok b w) (hr : (Op.equalIn d f.type a b).run P w = .ok r w) (rest : Bool) (hrest : r = true → (Op.eqFields d xs ys fs).run P w = .ok rest w) :
    (Op.eqFields d xs ys (f :: fs)).run P w = .ok (r && rest) w := by
  rw [Op.eqFields]
  rw [if_pos hn]
  simp only [Sem.run_bind, ha, hb, hr, Result.andThen_ok, Sem.run_ite]
  cases r
  · simp
  · simp [hrest rfl]
set_option maxRecDepth 100000 in
theorem lcp_equal (x y : Lcp) (w : World) : (Op.equalIn 10000 37 (.agg #[Value.bool x.hm, .int .u16 x.mru.toNat, .bool x.ha, .int .u32 x.accm.toNat, .int .u8 x.auth.toNat, .bool x.hg, .int .u32 x.magic.toNat, .bool x.pfc, .bool x.acfc]) (.agg #[Value.bool y.hm, .int .u16 y.mru.toNat, .bool y.ha, .int .u32 y.accm.toNat, .int .u8 y.auth.toNat, .bool y.hg, .int .u32 y.magic.toNat, .bool y.pfc, .bool y.acfc])).run Tryz.prog w
    = .ok (x.hm == y.hm && ((x.mru.toNat : Int) == y.mru.toNat && (x.ha == y.ha && ((x.accm.toNat : Int) == y.accm.toNat && ((x.auth.toNat : Int) == y.auth.toNat && (x.hg == y.hg && ((x.magic.toNat : Int) == y.magic.toNat && (x.pfc == y.pfc && (x.acfc == y.acfc && true))))))))) w := by
  rw [run_equalIn_agg w 9999 37 _ _ (by kernel_rfl) (by kernel_rfl)]
  unfold Program.fieldsOf
  rw [Tryz.underlying37]
  dsimp only
  refine eqF _ w 9999 _ _ _ _ (Value.bool x.hm) (Value.bool y.hm) _ (by decide) (by kernel_rfl) (by kernel_rfl) (run_equalIn_bool' w 9998 _ _ _ Tryz.underlying4) _ (fun _ => ?_)
  refine eqF _ w 9999 _ _ _ _ (.int .u16 x.mru.toNat) (.int .u16 y.mru.toNat) _ (by decide) (by kernel_rfl) (by kernel_rfl) (run_equalIn_int w 9998 _ _ _ _ _ Tryz.underlying22) _ (fun _ => ?_)
  refine eqF _ w 9999 _ _ _ _ (.bool x.ha) (.bool y.ha) _ (by decide) (by kernel_rfl) (by kernel_rfl) (run_equalIn_bool' w 9998 _ _ _ Tryz.underlying4) _ (fun _ => ?_)
  refine eqF _ w 9999 _ _ _ _ (.int .u32 x.accm.toNat) (.int .u32 y.accm.toNat) _ (by decide) (by kernel_rfl) (by kernel_rfl) (run_equalIn_int w 9998 _ _ _ _ _ Tryz.underlying23) _ (fun _ => ?_)
  refine eqF _ w 9999 _ _ _ _ (.int .u8 x.auth.toNat) (.int .u8 y.auth.toNat) _ (by decide) (by kernel_rfl) (by kernel_rfl) (run_equalIn_int w 9998 _ _ _ _ _ Tryz.underlying5) _ (fun _ => ?_)
  refine eqF _ w 9999 _ _ _ _ (.bool x.hg) (.bool y.hg) _ (by decide) (by kernel_rfl) (by kernel_rfl) (run_equalIn_bool' w 9998 _ _ _ Tryz.underlying4) _ (fun _ => ?_)
  refine eqF _ w 9999 _ _ _ _ (.int .u32 x.magic.toNat) (.int .u32 y.magic.toNat) _ (by decide) (by kernel_rfl) (by kernel_rfl) (run_equalIn_int w 9998 _ _ _ _ _ Tryz.underlying23) _ (fun _ => ?_)
  refine eqF _ w 9999 _ _ _ _ (.bool x.pfc) (.bool y.pfc) _ (by decide) (by kernel_rfl) (by kernel_rfl) (run_equalIn_bool' w 9998 _ _ _ Tryz.underlying4) _ (fun _ => ?_)
  refine eqF _ w 9999 _ _ _ _ (.bool x.acfc) (.bool y.acfc) _ (by decide) (by kernel_rfl) (by kernel_rfl) (run_equalIn_bool' w 9998 _ _ _ Tryz.underlying4) _ (fun _ => ?_)
  rfl
theorem lcp_dec (x y : Lcp) : (x.hm == y.hm && ((x.mru.toNat : Int) == y.mru.toNat && (x.ha == y.ha && ((x.accm.toNat : Int) == y.accm.toNat && ((x.auth.toNat : Int) == y.auth.toNat && (x.hg == y.hg && ((x.magic.toNat : Int) == y.magic.toNat && (x.pfc == y.pfc && (x.acfc == y.acfc && true))))))))) = decide (x = y) := by
  obtain ⟨a0, a1, a2, a3, a4, a5, a6, a7, a8⟩ := x
  obtain ⟨b0, b1, b2, b3, b4, b5, b6, b7, b8⟩ := y
  have e16 : ∀ a b : UInt16, ((a.toNat : Int) == b.toNat) = decide (a = b) := fun a b => by
    by_cases h : a = b
    · rw [h]; simp
    · rw [decide_eq_false h, beq_eq_false_iff_ne]; intro e; exact h (UInt16.toNat_inj.1 (by omega))
  have e32 : ∀ a b : UInt32, ((a.toNat : Int) == b.toNat) = decide (a = b) := fun a b => by
    by_cases h : a = b
    · rw [h]; simp
    · rw [decide_eq_false h, beq_eq_false_iff_ne]; intro e; exact h (UInt32.toNat_inj.1 (by omega))
  have e8 : ∀ a b : UInt8, ((a.toNat : Int) == b.toNat) = decide (a = b) := fun a b => by
    by_cases h : a = b
    · rw [h]; simp
    · rw [decide_eq_false h, beq_eq_false_iff_ne]; intro e; exact h (UInt8.toNat_inj.1 (by omega))
  simp only [e16, e32, e8, Lcp.mk.injEq]
  rw [Bool.eq_iff_iff]
  simp
theorem lcp_eq {x y : Lcp} {r : Bool} (h : decide (x = y) = r) (w : World) : (Op.equalIn 10000 37 (.agg #[Value.bool x.hm, .int .u16 x.mru.toNat, .bool x.ha, .int .u32 x.accm.toNat, .int .u8 x.auth.toNat, .bool x.hg, .int .u32 x.magic.toNat, .bool x.pfc, .bool x.acfc]) (.agg #[Value.bool y.hm, .int .u16 y.mru.toNat, .bool y.ha, .int .u32 y.accm.toNat, .int .u8 y.auth.toNat, .bool y.hg, .int .u32 y.magic.toNat, .bool y.pfc, .bool y.acfc])).run Tryz.prog w = .ok r w := by rw [lcp_equal, lcp_dec, h]
theorem lcp_eql {x y : Lcp} {r : Bool} (h : decide (x = y) = r) (w : World) : (binOp .eql 37 (.agg #[Value.bool x.hm, .int .u16 x.mru.toNat, .bool x.ha, .int .u32 x.accm.toNat, .int .u8 x.auth.toNat, .bool x.hg, .int .u32 x.magic.toNat, .bool x.pfc, .bool x.acfc]) (.agg #[Value.bool y.hm, .int .u16 y.mru.toNat, .bool y.ha, .int .u32 y.accm.toNat, .int .u8 y.auth.toNat, .bool y.hg, .int .u32 y.magic.toNat, .bool y.pfc, .bool y.acfc])).run Tryz.prog w = .ok (.bool r) w := by rw [run_eql_struct, lcp_eq h]; rfl
theorem lcp_neq {x y : Lcp} {r : Bool} (h : decide (x = y) = r) (w : World) : (binOp .neq 37 (.agg #[Value.bool x.hm, .int .u16 x.mru.toNat, .bool x.ha, .int .u32 x.accm.toNat, .int .u8 x.auth.toNat, .bool x.hg, .int .u32 x.magic.toNat, .bool x.pfc, .bool x.acfc]) (.agg #[Value.bool y.hm, .int .u16 y.mru.toNat, .bool y.ha, .int .u32 y.accm.toNat, .int .u8 y.auth.toNat, .bool y.hg, .int .u32 y.magic.toNat, .bool y.pfc, .bool y.acfc])).run Tryz.prog w = .ok (.bool (!r)) w := by rw [run_neq_struct, lcp_eq h]; rfl
set_option maxRecDepth 100000 in
theorem opt_eq {o p : Opt} {r : Bool} (h : decide (o = p) = r) (w : World) : (Op.equalIn 10000 51 (.agg #[.int .u8 o.1.toNat, .string o.2]) (.agg #[.int .u8 p.1.toNat, .string p.2])).run Tryz.prog w = .ok r w := by
  have e : ((o.1.toNat : Int) == p.1.toNat && ((o.2.toList == p.2.toList) && true)) = r := by
    rw [← h, Bool.eq_iff_iff]
    obtain ⟨t, d⟩ := o
    obtain ⟨t', d'⟩ := p
    simp only [Bool.and_eq_true, beq_iff_eq, decide_eq_true_eq, Prod.mk.injEq, and_true]
    exact ⟨fun ⟨a, b⟩ => ⟨UInt8.toNat_inj.1 (by omega), toList_inj b⟩, fun ⟨a, b⟩ => ⟨by rw [a], by rw [b]⟩⟩
  rw [run_equalIn_agg w 9999 51 _ _ (by kernel_rfl) (by kernel_rfl)]
  unfold Program.fieldsOf
  rw [Tryz.underlying51]
  dsimp only
  rw [← e]
  refine eqF _ w 9999 _ _ _ _ (.int .u8 o.1.toNat) (.int .u8 p.1.toNat) _ (by decide) (by kernel_rfl) (by kernel_rfl) (run_equalIn_int w 9998 _ _ _ _ _ Tryz.underlying5) _ (fun _ => ?_)
  refine eqF _ w 9999 _ _ _ _ (.string o.2) (.string p.2) _ (by decide) (by kernel_rfl) (by kernel_rfl) (run_equalIn_string w 9998 _ _ _ Tryz.underlying9) _ (fun _ => ?_)
  rfl
theorem opt_eql {o p : Opt} {r : Bool} (h : decide (o = p) = r) (w : World) : (binOp .eql 51 (.agg #[.int .u8 o.1.toNat, .string o.2]) (.agg #[.int .u8 p.1.toNat, .string p.2])).run Tryz.prog w = .ok (.bool r) w := by rw [run_eql_struct, opt_eq h]; rfl
end Go.Proofs.YtpohcejgblahiaaGreat.Lco

/- A verdict; contracts of isPoor, refused, poor, instead. -/
namespace Go.Proofs.YtpohcejgblahiaaGreat.Pol
open Go.RowKit Go.Proofs.YtpohcejgblahiaaGreat.Oct Go.Proofs.YtpohcejgblahiaaGreat.Row Go.Proofs.YtpohcejgblahiaaGreat.Mem Go.Proofs.YtpohcejgblahiaaGreat.Opt Go.Proofs.YtpohcejgblahiaaGreat.Lco

/-- A verdict's cells. -/
def verV (v : Ver) : List Value := [.int .u8 v.got.1.toNat, .string v.got.2, .bool v.rej, .int .u8 v.bet.1.toNat, .string v.bet.2]
/-- It lies in block g. -/
def VAt (w : World) (g : Nat) (v : Ver) : Prop := Blk w g (verV v) 66
theorem VAt.callee {w w' : World} {g : Nat} {v : Ver} (h : VAt w g v) (hb : Below w.heap.size w w') : VAt w' g v := Blk.callee h hb
theorem VAt.alloc {w : World} {g : Nat} {v : Ver} (h : VAt w g v) (o : Obj) : VAt (w.alloc o) g v := Blk.alloc h o
theorem VAt.c {w : World} {g : Nat} {v : Ver} (h : VAt w g v) (i : Nat) : w.cell? ⟨g, i, none⟩ = (verV v)[i]? := Blk.at_ h i
theorem VAt.moves {S : Nat → Prop} {w w' : World} {g : Nat} {v : Ver} (h : VAt w g v) (hm : Moves S w w') (hs : ¬ S g) : VAt w' g v := Blk.moves h hm hs
theorem vat_new (w : World) (v : Ver) : VAt (w.alloc (.cells (verV v).toArray 66)) w.heap.size v := blk_new w (verV v) _
theorem VAt.all {w : World} {g : Nat} {v : Ver} (h : VAt w g v) : w.cell? ⟨g, 0, none⟩ = some (.int .u8 v.got.1.toNat) ∧ w.cell? ⟨g, 1, none⟩ = some (.string v.got.2) ∧ w.cell? ⟨g, 2, none⟩ = some (.bool v.rej) ∧ w.cell? ⟨g, 3, none⟩ = some (.int .u8 v.bet.1.toNat) ∧ w.cell? ⟨g, 4, none⟩ = some (.string v.bet.2) := ⟨h.c 0, h.c 1, h.c 2, h.c 3, h.c 4⟩
theorem opt_neq {o p : Opt} {r : Bool} (h : decide (o = p) = r) (w : World) : (binOp .neq 51 (.agg #[.int .u8 o.1.toNat, .string o.2]) (.agg #[.int .u8 p.1.toNat, .string p.2])).run Tryz.prog w = .ok (.bool (!r)) w := by rw [run_neq_struct, opt_eq h]; rfl
theorem boxV (w : World) (v : Ver) : ∃ W, w.alloc (.cells #[.int .u8 v.got.1.toNat, .string v.got.2, .bool v.rej, .int .u8 v.bet.1.toNat, .string v.bet.2] 66) = W ∧ Hid (VAt W w.heap.size v ∧ Below w.heap.size w W ∧ W.heap.size = w.heap.size + 1) :=
  ⟨_, rfl, vat_new w v, (Below.refl w.heap.size w).alloc (Nat.le_refl _) _, by simp⟩
theorem boxVO (w : World) (v : Ver) : ∃ W, (w.alloc (.cells #[.int .u8 v.got.1.toNat, .string v.got.2, .bool v.rej, .int .u8 v.bet.1.toNat, .string v.bet.2] 66)).alloc (.cells #[.int .u8 0, .string ⟨#[]⟩] 51) = W ∧ Hid (VAt W w.heap.size v ∧ At W (w.heap.size + 1) (0, ⟨#[]⟩) ∧ Below w.heap.size w W ∧ W.heap.size = w.heap.size + 1 + 1) :=
  ⟨_, rfl, (vat_new w v).alloc _, by have := at_new (w.alloc (.cells (verV v).toArray 66)) 0 ⟨#[]⟩; rw [World.size_alloc] at this; exact this, ((Below.refl w.heap.size w).alloc (Nat.le_refl _) _).alloc (by simp) _, by simp⟩
set_option maxHeartbeats 1000000 in
set_option maxRecDepth 100000 in
theorem isPoor_any (v : Ver) (w : World) : Calls Tryz.prog 56 #[.agg #[.int .u8 v.got.1.toNat, .string v.got.2, .bool v.rej, .int .u8 v.bet.1.toNat, .string v.bet.2]] w fun e w' => e = .returned (.bool (poor v)) ∧ Below w.heap.size w w' := by
  obtain ⟨W, hW, HW⟩ := boxV w v
  obtain ⟨c0, c1, c2, c3, c4⟩ := HW.out.1.all
  have HB := Lib.hid HW.out.2.1
  have HE : Hid (poor v = (!v.rej && !decide (v.bet = v.got))) := rfl
  cases hr : v.rej
  · rw [hr] at c2 HE hW
    obtain ⟨r, hd⟩ : ∃ r, decide (v.bet = v.got) = r := ⟨_, rfl⟩
    have hN := fun w => opt_neq hd w
    have HF : Hid (poor v = !r) := by
      show _ = _
      rw [HE.out, hd]
      rfl
    clear HW hd HE
    go_enter Tryz.func56, Tryz.ntmps56
    go_wp2
    go_ret
    exact ⟨by rw [HF.out] <;> rfl, HB.out⟩
  · rw [hr] at c2 HE hW
    clear HW
    go_enter Tryz.func56, Tryz.ntmps56
    go_wp2
    go_ret
    exact ⟨by rw [HE.out] <;> rfl, HB.out⟩
/-- What a choice answers. -/
def PickQ (o : Opt) (b : Bool) (w : World) (e : Ending) (w' : World) : Prop := e = .returned (.tuple #[.agg #[.int .u8 o.1.toNat, .string o.2], .bool b]) ∧ Below w.heap.size w w'
set_option maxRecDepth 100000 in
theorem pick_end {f : Func} {p t : Nat} (hf : f.results = #[.cell p 51, .tmp t]) (tmps : Array Value) {W : World} {g : Nat} (o : Opt) (h : At W g o) (hp : tmps.getD p undef = .pointer (some ⟨g, 0, none⟩)) :
    (results f tmps).run Tryz.prog W = .ok (.tuple #[.agg #[.int .u8 o.1.toNat, .string o.2], tmps.getD t undef]) W := results_row1 hf tmps W g _ _ _ hp h Tryz.underlying51 rfl (by kernel_rfl)
set_option maxHeartbeats 1000000 in
set_option maxRecDepth 100000 in
theorem refused_any (v : Ver) (w : World) : Calls Tryz.prog 29 #[.agg #[.int .u8 v.got.1.toNat, .string v.got.2, .bool v.rej, .int .u8 v.bet.1.toNat, .string v.bet.2]] w (PickQ v.got v.rej w) := by
  obtain ⟨W, hW, HW⟩ := boxVO w v
  obtain ⟨c0, c1, c2, c3, c4⟩ := HW.out.1.all
  have f0 := Blk.frozen HW.out.2.1 0
  have f1 := Blk.frozen HW.out.2.1 1
  have z0 := HW.out.2.1.c0
  have z1 := HW.out.2.1.c1
  have HB := Lib.hid HW.out.2.2.1
  have HR := Lib.hid (HW.out.2.1.set v.got)
  go_enter Tryz.func29, Tryz.ntmps29
  go_wp2
  clear hW
  go_region
  go_wp2
  (try simp only [Exit.inBlock, Exit.then])
  refine bodyPost_ret (pick_end rfl _ v.got HR.out rfl) rfl ?_
  exact ⟨rfl, ((HB.out.setCell (p := ⟨w.heap.size + 1, 0, none⟩) (Nat.le_succ _) _).setCell (p := ⟨w.heap.size + 1, 1, none⟩) (Nat.le_succ _) _).drew⟩
set_option maxHeartbeats 2000000 in
set_option maxRecDepth 100000 in
theorem poor_any (v : Ver) (w : World) : Calls Tryz.prog 31 #[.agg #[.int .u8 v.got.1.toNat, .string v.got.2, .bool v.rej, .int .u8 v.bet.1.toNat, .string v.bet.2]] w (PickQ v.got (poor v) w) := by
  obtain ⟨W, hW, HW⟩ := boxVO w v
  obtain ⟨c0, c1, c2, c3, c4⟩ := HW.out.1.all
  have f0 := Blk.frozen HW.out.2.1 0
  have f1 := Blk.frozen HW.out.2.1 1
  have z0 := HW.out.2.1.c0
  have z1 := HW.out.2.1.c1
  have HV : Hid (VAt W.drew w.heap.size v) := HW.out.1
  have HZ : Hid (At W.drew (w.heap.size + 1) (0, ⟨#[]⟩)) := HW.out.2.1
  have HB : Hid (Below w.heap.size w W.drew) := HW.out.2.2.1.drew
  have HS : Hid (At ((W.drew.setCell ⟨w.heap.size + 1, 0, none⟩ (.int .u8 v.got.1.toNat)).setCell ⟨w.heap.size + 1, 1, none⟩ (.string v.got.2)) (w.heap.size + 1) v.got) := HZ.out.set v.got
  have HBS : Hid (Below w.heap.size w ((W.drew.setCell ⟨w.heap.size + 1, 0, none⟩ (.int .u8 v.got.1.toNat)).setCell ⟨w.heap.size + 1, 1, none⟩ (.string v.got.2))) := (HB.out.setCell (p := ⟨w.heap.size + 1, 0, none⟩) (Nat.le_succ _) _).setCell (p := ⟨w.heap.size + 1, 1, none⟩) (Nat.le_succ _) _
  have HVS : Hid (VAt ((W.drew.setCell ⟨w.heap.size + 1, 0, none⟩ (.int .u8 v.got.1.toNat)).setCell ⟨w.heap.size + 1, 1, none⟩ (.string v.got.2)) w.heap.size v) := ((HV.out.moves (set_moves _ (w.heap.size + 1) 0 _) (by omega)).moves (set_moves _ (w.heap.size + 1) 1 _) (by omega))
  have C1 := Lib.hid (isPoor_any v)
  go_enter Tryz.func31, Tryz.ntmps31
  go_wp2
  clear hW
  go_region_with (first
    | (go_at_call 56; refine (C1.out W.drew).mono ?_; rintro e w1 ⟨rfl, hb1⟩; have HZ1 := Lib.hid (HZ.out.callee hb1); have HB1 := Lib.hid (HB.out.trans (hb1.mono HB.out.size)); obtain ⟨d0, d1, d2, d3, d4⟩ := (HV.out.callee hb1).all; have g0 := Blk.frozen HZ1.out 0; have g1 := Blk.frozen HZ1.out 1; have y0 := HZ1.out.c0; have y1 := HZ1.out.c1; clear hb1)
    | (go_at_call 56; refine (C1.out _).mono ?_; rintro e w1 ⟨rfl, hb1⟩; have HS1 := Lib.hid (HS.out.callee hb1); have HB2 := Lib.hid (HBS.out.trans (hb1.mono HBS.out.size)); obtain ⟨d0, d1, d2, d3, d4⟩ := (HVS.out.callee hb1).all; clear hb1)
    | fail)
  all_goals go_wp2
  all_goals (try simp only [Exit.inBlock, Exit.then])
  all_goals first
    | (refine bodyPost_ret (pick_end rfl _ v.got HS1.out rfl) rfl ?_; exact ⟨rfl, HB2.out⟩)
    | (refine bodyPost_ret (pick_end rfl _ v.got (HZ1.out.set v.got) rfl) rfl ?_; exact ⟨rfl, (HB1.out.setCell (p := ⟨w.heap.size + 1, 0, none⟩) (Nat.le_succ _) _).setCell (p := ⟨w.heap.size + 1, 1, none⟩) (Nat.le_succ _) _⟩)
set_option maxHeartbeats 2000000 in
set_option maxRecDepth 100000 in
theorem instead_any (v : Ver) (w : World) : Calls Tryz.prog 32 #[.agg #[.int .u8 v.got.1.toNat, .string v.got.2, .bool v.rej, .int .u8 v.bet.1.toNat, .string v.bet.2]] w (PickQ v.bet (poor v) w) := by
  obtain ⟨W, hW, HW⟩ := boxVO w v
  obtain ⟨c0, c1, c2, c3, c4⟩ := HW.out.1.all
  have f0 := Blk.frozen HW.out.2.1 0
  have f1 := Blk.frozen HW.out.2.1 1
  have z0 := HW.out.2.1.c0
  have z1 := HW.out.2.1.c1
  have HV : Hid (VAt W.drew w.heap.size v) := HW.out.1
  have HZ : Hid (At W.drew (w.heap.size + 1) (0, ⟨#[]⟩)) := HW.out.2.1
  have HB : Hid (Below w.heap.size w W.drew) := HW.out.2.2.1.drew
  have HS : Hid (At ((W.drew.setCell ⟨w.heap.size + 1, 0, none⟩ (.int .u8 v.bet.1.toNat)).setCell ⟨w.heap.size + 1, 1, none⟩ (.string v.bet.2)) (w.heap.size + 1) v.bet) := HZ.out.set v.bet
  have HBS : Hid (Below w.heap.size w ((W.drew.setCell ⟨w.heap.size + 1, 0, none⟩ (.int .u8 v.bet.1.toNat)).setCell ⟨w.heap.size + 1, 1, none⟩ (.string v.bet.2))) := (HB.out.setCell (p := ⟨w.heap.size + 1, 0, none⟩) (Nat.le_succ _) _).setCell (p := ⟨w.heap.size + 1, 1, none⟩) (Nat.le_succ _) _
  have HVS : Hid (VAt ((W.drew.setCell ⟨w.heap.size + 1, 0, none⟩ (.int .u8 v.bet.1.toNat)).setCell ⟨w.heap.size + 1, 1, none⟩ (.string v.bet.2)) w.heap.size v) := ((HV.out.moves (set_moves _ (w.heap.size + 1) 0 _) (by omega)).moves (set_moves _ (w.heap.size + 1) 1 _) (by omega))
  have C1 := Lib.hid (isPoor_any v)
  go_enter Tryz.func32, Tryz.ntmps32
  go_wp2
  clear hW
  go_region_with (first
    | (go_at_call 56; refine (C1.out W.drew).mono ?_; rintro e w1 ⟨rfl, hb1⟩; have HZ1 := Lib.hid (HZ.out.callee hb1); have HB1 := Lib.hid (HB.out.trans (hb1.mono HB.out.size)); obtain ⟨d0, d1, d2, d3, d4⟩ := (HV.out.callee hb1).all; have g0 := Blk.frozen HZ1.out 0; have g1 := Blk.frozen HZ1.out 1; have y0 := HZ1.out.c0; have y1 := HZ1.out.c1; clear hb1)
    | (go_at_call 56; refine (C1.out _).mono ?_; rintro e w1 ⟨rfl, hb1⟩; have HS1 := Lib.hid (HS.out.callee hb1); have HB2 := Lib.hid (HBS.out.trans (hb1.mono HBS.out.size)); obtain ⟨d0, d1, d2, d3, d4⟩ := (HVS.out.callee hb1).all; clear hb1)
    | fail)
  all_goals go_wp2
  all_goals (try simp only [Exit.inBlock, Exit.then])
  all_goals first
    | (refine bodyPost_ret (pick_end rfl _ v.bet HS1.out rfl) rfl ?_; exact ⟨rfl, HB2.out⟩)
    | (refine bodyPost_ret (pick_end rfl _ v.bet (HZ1.out.set v.bet) rfl) rfl ?_; exact ⟨rfl, (HB1.out.setCell (p := ⟨w.heap.size + 1, 0, none⟩) (Nat.le_succ _) _).setCell (p := ⟨w.heap.size + 1, 1, none⟩) (Nat.le_succ _) _⟩)
end Go.Proofs.YtpohcejgblahiaaGreat.Pol
