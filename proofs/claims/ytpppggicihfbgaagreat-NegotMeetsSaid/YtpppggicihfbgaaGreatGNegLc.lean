/- Put together: NegLc, NegW. -/
import Derived.Test.YtpppggicihfbgaaGreatGNegR
import Derived.Test.YtpppggicihfbgaaGreatGNegU
import Derived.Test.YtpppggicihfbgaaGreatGPolP
import Derived.Test.YtpppggicihfbgaaGreatGPolG
import Derived.Test.YtpppggicihfbgaaGreatGLcoC

/- The kind of LCP's policies. -/
namespace Go.Proofs.YtpppggicihfbgaaGreat.Neg
open Go.RowKit Go.Proofs.YtpppggicihfbgaaGreat.Oct Go.Proofs.YtpppggicihfbgaaGreat.Row Go.Proofs.YtpppggicihfbgaaGreat.Mem Go.Proofs.YtpppggicihfbgaaGreat.Opt

theorem lwt_small : ∀ (l : List Opt), (∀ o ∈ l, o.2.size ≤ 4) → wt l ≤ 6 * l.length
  | [], _ => Nat.le_refl _
  | o :: l, h => by
    have h1 := lwt_small l (fun p hp => h p (List.mem_cons_of_mem _ hp))
    have h2 := h o (List.mem_cons_self ..)
    simp only [wt, List.length_cons]
    omega
theorem lpe_put (x : Lco.Lcp) : pE (Lco.put x) = 0 := by
  refine pE_zero.2 ⟨by have := Lco.put_len x; omega, ?_, by have := lwt_small _ (Lco.put_size x); have := Lco.put_len x; omega⟩
  unfold big
  rw [List.any_eq_false]
  intro o ho
  have := Lco.put_size x o ho
  simp only [decide_eq_true_eq]
  omega
theorem boxLc (w : World) (q : Nat) : ∃ W, w.alloc (.cells #[.pointer (some ⟨q, 0, none⟩)] 62) = W ∧ Hid (Blk W w.heap.size [.pointer (some ⟨q, 0, none⟩)] 62 ∧ Below w.heap.size w W) :=
  ⟨_, rfl, blk_new w [.pointer (some ⟨q, 0, none⟩)] _, (Below.refl w.heap.size w).alloc (Nat.le_refl _) _⟩
set_option maxHeartbeats 2000000 in
set_option maxRecDepth 100000 in
theorem lc_renew (q : Nat) (p : Pol.Po) (w : World) (d : UInt32) (h : Pol.PAt w q p) : Calls Tryz.prog 206 #[.agg #[ptr q], .int .u32 d.toNat] w fun e w' => e = .returned (.tuple #[]) ∧ Pol.PAt w' q (Pol.newP p.c d) ∧ Moves (fun k => k = q) w w' := by
  obtain ⟨W, hW, HW⟩ := boxLc w q
  have H := Lib.hid (h.callee HW.out.2)
  have M : Hid (Moves (fun k => k = q) w W) := Moves.of_below HW.out.2
  have HR := Lib.hid (Pol.reset_any q p d W H.out)
  have c0 : W.cell? ⟨w.heap.size, 0, none⟩ = some (.pointer (some ⟨q, 0, none⟩)) := HW.out.1.at_ 0
  clear h HW
  unfold ptr
  go_enter Tryz.func206, Tryz.ntmps206
  go_wp2_with fail
  refine HR.out.mono ?_
  rintro e w1 ⟨rfl, hp, hm⟩
  have HP := Lib.hid hp
  have M1 := Lib.hid (M.out.trans hm fun _ _ x => x)
  clear hp hm
  go_wp2
  go_end0
  exact ⟨rfl, HP.out, M1.out⟩
set_option maxHeartbeats 2000000 in
set_option maxRecDepth 100000 in
theorem lc_naked (q : Nat) (p : Pol.Po) (w : World) (d : UInt32) (l : List Opt) (A : Option Addr) (c : Nat) (h : Pol.PAt w q p) (hm : Lco.may p.w = true) (hl : Opts w w.heap.size A l.length l) (h64 : l.length ≤ 64) :
    Calls Tryz.prog 205 #[.agg #[ptr q], .int .u32 d.toNat, .slice A l.length c] w fun e w' => e = .returned (.bool (Pol.nkB l)) ∧ Pol.PAt w' q (Pol.nkP p d l) ∧ Moves (fun k => k = q) w w' := by
  obtain ⟨W, hW, HW⟩ := boxLc w q
  have H := Lib.hid (h.callee HW.out.2)
  have M : Hid (Moves (fun k => k = q) w W) := Moves.of_below HW.out.2
  have HR := Lib.hid (Pol.naked_any q p d l A l.length c W H.out hm (hl.next HW.out.2) (by omega))
  have c0 : W.cell? ⟨w.heap.size, 0, none⟩ = some (.pointer (some ⟨q, 0, none⟩)) := HW.out.1.at_ 0
  clear h HW hl
  unfold ptr
  go_enter Tryz.func205, Tryz.ntmps205
  go_wp2_with fail
  refine HR.out.mono ?_
  rintro e w1 ⟨rfl, hp, hm⟩
  have HP := Lib.hid hp
  have M1 := Lib.hid (M.out.trans hm fun _ _ x => x)
  clear hp hm
  go_wp2
  go_ret
  exact ⟨rfl, HP.out, M1.out⟩
set_option maxHeartbeats 2000000 in
set_option maxRecDepth 100000 in
theorem lc_twin (q : Nat) (p : Pol.Po) (w : World) (h : Pol.PAt w q p) : Calls Tryz.prog 207 #[.agg #[ptr q]] w fun e w' => ∃ q', e = .returned (.iface 62 (.agg #[.pointer (some ⟨q', 0, none⟩)])) ∧ w.heap.size ≤ q' ∧ Pol.PAt w' q' p ∧ Below w.heap.size w w' := by
  obtain ⟨W, hW, HW⟩ := boxLc w q
  have HB := Lib.hid HW.out.2
  have HR := Lib.hid (Pol.copy_any q p W (h.callee HW.out.2))
  have c0 : W.cell? ⟨w.heap.size, 0, none⟩ = some (.pointer (some ⟨q, 0, none⟩)) := HW.out.1.at_ 0
  clear h HW
  unfold ptr
  go_enter Tryz.func207, Tryz.ntmps207
  go_wp2_with fail
  refine HR.out.mono ?_
  rintro e w1 ⟨q', rfl, hq, hp, hb⟩
  have HP := Lib.hid hp
  have HQ : Hid (w.heap.size ≤ q') := Nat.le_trans HB.out.size hq
  have HB1 := Lib.hid (HB.out.trans (hb.mono HB.out.size))
  clear hp hq hb
  go_wp2
  go_ret
  exact ⟨q', rfl, HQ.out, HP.out, HB1.out⟩
def lok (p : Pol.Po) : Prop := Lco.may p.w = true ∧ Pol.mayC p.c = true
set_option maxRecDepth 100000 in
def lcK : Kd where
  α := Pol.Po
  proto := 49185
  ty := 62
  At := Pol.PAt
  lt := Pol.PAt.lt
  moves := fun h hm hs => Pol.PAt.moves h hm hs
  ok := lok
  req := Pol.req
  fRequest := 119
  eRequest := enters_of Tryz.func119 (by kernel_rfl) rfl
  mRequest := fun k hk q w => by subst hk; kernel_rfl
  cRequest := fun q p w h hok => (Pol.request_any q p w h hok.1).mono fun e w' ⟨A, c, he, hO, hb, _⟩ => ⟨A, c, he, hO, hb⟩
  magic := fun p => p.mine.magic
  renew := fun p d => Pol.newP p.c d
  fRenew := 206
  eRenew := enters_of Tryz.func206 (by kernel_rfl) rfl
  mRenew := fun k hk q w => by subst hk; kernel_rfl
  cRenew := fun q p w d h _ => lc_renew q p w d h
  okRenew := fun p d h => ⟨Pol.wish_may d h.2, h.2⟩
  rq := fun p _ => ⟨lpe_put p.w, by have h := Lco.put_len p.w; show (Lco.put p.w).length ≤ _; unfold maxLen; omega⟩
theorem lc_jC (p : Pol.Po) (l : List Opt) : Pol.jC p l < 256 := by
  unfold Pol.jC
  repeat' split
  all_goals decide
theorem vs_len (p : Pol.Po) (l : List Opt) : (Pol.vs p l).length = l.length := by simp [Pol.vs]
theorem lc_jA (p : Pol.Po) (l : List Opt) (h : l.length ≤ 64) : (Pol.jA p l).length ≤ maxLen := by
  have h1 : (Pol.refs (Pol.vs p l)).length ≤ 64 := Nat.le_trans (List.length_filterMap_le _ _) (by rw [vs_len]; exact h)
  have h2 : (Pol.poors (Pol.vs p l)).length ≤ 64 := Nat.le_trans (List.length_filterMap_le _ _) (by rw [vs_len]; exact h)
  have h3 : (Pol.insts (Pol.vs p l)).length ≤ 64 := Nat.le_trans (List.length_filterMap_le _ _) (by rw [vs_len]; exact h)
  have h4 : (64 : Nat) ≤ maxLen := by unfold maxLen; decide
  unfold Pol.jA
  repeat' split
  all_goals omega
theorem loop_wc (p : Pol.Po) (l : List Opt) : (Pol.loopP p l).w = p.w ∧ (Pol.loopP p l).c = p.c := by
  unfold Pol.loopP
  split <;> exact ⟨rfl, rfl⟩
theorem lc_jok (p : Pol.Po) (l : List Opt) (h : lok p) : lok (Pol.jP p l) := by
  obtain ⟨h1, h2⟩ := loop_wc p l
  have : (Pol.jP p l).w = p.w ∧ (Pol.jP p l).c = p.c := by
    unfold Pol.jP
    repeat' split
    all_goals exact ⟨h1, h2⟩
  exact ⟨by rw [this.1]; exact h.1, by rw [this.2]; exact h.2⟩
theorem lc_plain {w : World} {q : Nat} {p : Pol.Po} (h : Pol.PAt w q p) (i : Nat) (s : ByteArray) : w.cell? ⟨q, i, none⟩ ≠ some (.string s) := by
  rw [h.c i]
  intro e
  have h1 := List.mem_of_getElem? e
  simp only [Pol.pv, Pol.cv, Lco.lv, List.mem_append, List.mem_cons, List.not_mem_nil, or_false] at h1
  rcases h1 with h1 | h1 | h1 | h1 | h1 <;> (repeat' (rcases h1 with h1 | h1)) <;> cases h1
set_option maxRecDepth 100000 in
def lcR : Kr lcK where
  plain := fun h i s => lc_plain h i s
  okJ := fun p => p.naks ≤ 1000 ∧ p.loops ≤ 1000000
  jC := Pol.jC
  jA := Pol.jA
  jP := Pol.jP
  jlt := lc_jC
  jlen := lc_jA
  jok := lc_jok
  fJudge := 117
  eJudge := enters_of Tryz.func117 (by kernel_rfl) rfl
  mJudge := fun k hk q w => by subst hk; kernel_rfl
  cJudge := fun q p w l A c h hok hj hl hA hn => Pol.judge_any q p l A l.length c w h hl hA (by omega) hj.1 hj.2
  fTwin := 207
  eTwin := enters_of Tryz.func207 (by kernel_rfl) rfl
  mTwin := fun k hk q w => by subst hk; kernel_rfl
  cTwin := fun q p w h => lc_twin q p w h
theorem lc_akok (p : Pol.Po) (l : List Opt) (h : lok p) : lok (Pol.akP p l) := by
  unfold Pol.akP
  split <;> exact h
theorem lc_nkok (p : Pol.Po) (d : UInt32) (l : List Opt) (h : lok p) : lok (Pol.nkP p d l) := by
  refine ⟨Pol.nkP_may d l h.1, ?_⟩
  unfold Pol.nkP
  split <;> exact h.2
set_option maxRecDepth 100000 in
def lcA : Rp lcK "Acked" where
  b := Pol.akB
  p := Pol.akP
  ok := lc_akok
  f := 116
  e := enters_of Tryz.func116 (by kernel_rfl) rfl
  m := fun k hk q w => by subst hk; kernel_rfl
  c := fun q p w l A c h hok hl _ hn => Pol.acked_any q p l A l.length c w h hok.1 hl (by omega)
set_option maxRecDepth 100000 in
def lcN : Rn lcK where
  b := fun _ _ l => Pol.nkB l
  p := Pol.nkP
  ok := lc_nkok
  f := 205
  e := enters_of Tryz.func205 (by kernel_rfl) rfl
  m := fun k hk q w => by subst hk; kernel_rfl
  c := fun q p w d l A c h hok hl _ hn => lc_naked q p w d l A c h hok.1 hl hn
end Go.Proofs.YtpppggicihfbgaaGreat.Neg

/- Sides of LCP: made; the policy that is told; two policies that are alike. -/
namespace Go.Proofs.YtpppggicihfbgaaGreat.Neg
open Go.RowKit Go.Proofs.YtpppggicihfbgaaGreat.Oct Go.Proofs.YtpppggicihfbgaaGreat.Row Go.Proofs.YtpppggicihfbgaaGreat.Mem Go.Proofs.YtpppggicihfbgaaGreat.Opt Go.Proofs.YtpppggicihfbgaaGreat.Fsm
open Go.Proofs.YtpppggicihfbgaaGreat.Aut (Au Aut Inv)

theorem boxAL (w : World) (a b d : Int) (c : Pol.Conf) : ∃ W, (w.alloc (.cells #[.int .i64 a, .int .i64 b, .int .i64 d] 34)).alloc (.cells #[Value.int .u16 c.mru.toNat, .bool c.ha, .int .u32 c.accm.toNat, .int .u8 c.auth.toNat, .int .u8 c.takes.toNat, .int .u8 c.can.toNat, .bool c.mg, .bool c.pfc, .bool c.acfc, .int .i64 c.mn] 25) = W ∧
    Hid (Blk W w.heap.size [.int .i64 a, .int .i64 b, .int .i64 d] 34 ∧ Pol.CAt W (w.heap.size + 1) c ∧ Below w.heap.size w W) := by
  refine ⟨_, rfl, (blk_new w [.int .i64 a, .int .i64 b, .int .i64 d] _).alloc _, ?_, ((Below.refl w.heap.size w).alloc (Nat.le_refl _) _).alloc (by rw [World.size_alloc]; exact Nat.le_succ _) _⟩
  have := Pol.cat_new (w.alloc (.cells #[.int .i64 a, .int .i64 b, .int .i64 d] 34)) c
  rw [World.size_alloc] at this
  exact this
def LNewQ (s : Sd lcK) (w : World) (e : Ending) (w' : World) : Prop :=
  ∃ g a q, e = .returned (.tuple #[.pointer (some ⟨g, 0, none⟩), .int .i64 0]) ∧ w.heap.size ≤ g ∧ w.heap.size ≤ a ∧ w.heap.size ≤ q ∧ SAt lcK w' g a q s ∧ Below w.heap.size w w'
set_option maxHeartbeats 2000000 in
set_option maxRecDepth 100000 in
theorem lcp_ok (r mc mt : Nat) (c : Pol.Conf) (m : UInt32) (w : World) (h : Aut.may r mc mt = true) (hc : Pol.mayC c = true) :
    Calls Tryz.prog 6 #[.agg #[.int .i64 r, .int .i64 mc, .int .i64 mt], .agg #[Value.int .u16 c.mru.toNat, .bool c.ha, .int .u32 c.accm.toNat, .int .u8 c.auth.toNat, .int .u8 c.takes.toNat, .int .u8 c.can.toNat, .bool c.mg, .bool c.pfc, .bool c.acfc, .int .i64 c.mn], .int .u32 m.toNat] w (LNewQ (newSd lcK r mc mt (Pol.newP c m)) w) := by
  obtain ⟨W, hW, HW⟩ := boxAL w r mc mt c
  have HB := Lib.hid HW.out.2.2
  have HA := Lib.hid HW.out.1
  have HN := Lib.hid (Pol.new_ok c m W hc)
  obtain ⟨c0, c1, c2, c3, c4, c5, c6, c7, c8, c9⟩ := HW.out.2.1.all
  have HM : Hid (∀ q w, Pol.PAt w q (Pol.newP c m) → Calls Tryz.prog 20 #[.agg #[.int .i64 r, .int .i64 mc, .int .i64 mt], .int .u16 49185, .iface 62 (.agg #[.pointer (some ⟨q, 0, none⟩)])] w (MadeQ lcK q (newSd lcK r mc mt (Pol.newP c m)) w)) := fun q w hp => made_ok lcK q r mc mt (Pol.newP c m) w hp h
  clear h hc HW
  go_enter Tryz.func6, Tryz.ntmps6
  go_wp2_with fail
  refine HN.out.mono ?_
  rintro e w1 ⟨q, rfl, hgq, hp, hb1⟩
  have HP := Lib.hid hp
  have HB1 := Lib.hid (HB.out.trans (hb1.mono HB.out.size))
  have hwq : Hid (w.heap.size ≤ q) := Nat.le_trans HB.out.size hgq
  have HA1 := Lib.hid (HA.out.callee hb1)
  clear hgq hp hb1 hW c0 c1 c2 c3 c4 c5 c6 c7 c8 c9 HA
  have c0 : w1.cell? ⟨w.heap.size, 0, none⟩ = some (.int .i64 r) := HA1.out.at_ 0
  have c1 : w1.cell? ⟨w.heap.size, 1, none⟩ = some (.int .i64 mc) := HA1.out.at_ 1
  have c2 : w1.cell? ⟨w.heap.size, 2, none⟩ = some (.int .i64 mt) := HA1.out.at_ 2
  go_wp2_with fail
  refine (HM.out _ _ HP.out).mono ?_
  rintro e w2 ⟨g, a, rfl, hg, ha, hs, hb2⟩
  have HS := Lib.hid hs
  have HB2 := Lib.hid (HB1.out.trans (hb2.mono HB1.out.size))
  have hw2 : Hid (w.heap.size ≤ g ∧ w.heap.size ≤ a) := ⟨Nat.le_trans HB1.out.size hg, Nat.le_trans HB1.out.size ha⟩
  clear hg ha hs hb2
  go_wp2
  go_ret2
  exact ⟨g, a, q, rfl, hw2.out.1, hw2.out.2, hwq.out, HS.out, HB2.out⟩
set_option maxHeartbeats 2000000 in
set_option maxRecDepth 100000 in
theorem lcp_no (x y z : Int) (c : Pol.Conf) (m : UInt32) (w : World) (hc : Pol.mayC c = false) :
    Calls Tryz.prog 6 #[.agg #[.int .i64 x, .int .i64 y, .int .i64 z], .agg #[Value.int .u16 c.mru.toNat, .bool c.ha, .int .u32 c.accm.toNat, .int .u8 c.auth.toNat, .int .u8 c.takes.toNat, .int .u8 c.can.toNat, .bool c.mg, .bool c.pfc, .bool c.acfc, .int .i64 c.mn], .int .u32 m.toNat] w (NoQ w) := by
  obtain ⟨W, hW, HW⟩ := boxAL w x y z c
  have HB := Lib.hid HW.out.2.2
  obtain ⟨c0, c1, c2, c3, c4, c5, c6, c7, c8, c9⟩ := HW.out.2.1.all
  have HN := Lib.hid (Pol.new_no c m W hc)
  clear hc HW
  go_enter Tryz.func6, Tryz.ntmps6
  go_wp2_with fail
  refine HN.out.mono ?_
  rintro e w1 ⟨rfl, hb1⟩
  have HB1 := Lib.hid (HB.out.trans (hb1.mono HB.out.size))
  clear hb1 hW c0 c1 c2 c3 c4 c5 c6 c7 c8 c9
  go_wp2
  go_ret2
  exact ⟨rfl, HB1.out⟩
/-! ### the policy that is told -/
set_option maxHeartbeats 2000000 in
set_option maxRecDepth 100000 in
theorem side_lcp (g a q : Nat) (s : Sd lcK) (w : World) (h : SAt lcK w g a q s) : Calls Tryz.prog 10 #[.pointer (some ⟨g, 0, none⟩)] w fun e w' => ∃ b, e = .returned (.pointer (some ⟨b, 0, none⟩)) ∧ w.heap.size ≤ b ∧ Pol.PAt w' b s.p ∧ Below w.heap.size w w' := by
  have c2 : w.cell? ⟨g, 2, none⟩ = some (.iface 62 (.agg #[.pointer (some ⟨q, 0, none⟩)])) := h.c 2
  have HP : Hid (Pol.PAt w q s.p) := h.2.2.1
  have HC := Lib.hid (fun w h => Pol.copy_any q s.p w h)
  have ht : ∀ w, (Instr.typeAssert (.iface 62 (.agg #[.pointer (some ⟨q, 0, none⟩)])) 70 62 true).run Tryz.prog w = .ok (.tuple #[.agg #[.pointer (some ⟨q, 0, none⟩)], .bool true]) w := fun w => by kernel_rfl
  have hb := (Below.refl w.heap.size w).alloc (Nat.le_refl _) (.cells #[.pointer (some ⟨q, 0, none⟩)] 62)
  have HP1 := Lib.hid (HP.out.callee hb)
  have HB := Lib.hid hb
  clear h hb
  go_enter Tryz.func10, Tryz.ntmps10
  go_wp2_with fail
  refine (HC.out _ HP1.out).mono ?_
  rintro e w1 ⟨b, rfl, hq, hp, hb1⟩
  have HP2 := Lib.hid hp
  have HQ : Hid (w.heap.size ≤ b) := Nat.le_trans HB.out.size hq
  have HB1 := Lib.hid (HB.out.trans (hb1.mono HB.out.size))
  clear hq hp hb1
  go_wp2
  go_ret
  exact ⟨b, rfl, HQ.out, HP2.out, HB1.out⟩
end Go.Proofs.YtpppggicihfbgaaGreat.Neg
