/- Put together: NegLc, NegW, NegX, NegY. -/
import Derived.Test.YtikcgcgbcolndaaGreatGNegR
import Derived.Test.YtikcgcgbcolndaaGreatGNegU
import Derived.Test.YtikcgcgbcolndaaGreatPolQa
import Derived.Test.YtikcgcgbcolndaaGreatGPolDa
import Derived.Test.YtikcgcgbcolndaaGreatGPolI
import Derived.Test.YtikcgcgbcolndaaGreatGLcoEq
import Derived.Test.YtikcgcgbcolndaaGreatGNegK

/- The kind of LCP's policies. -/
namespace Go.Proofs.YtikcgcgbcolndaaGreat.Neg
open Go.RowKit Go.Proofs.YtikcgcgbcolndaaGreat.Oct Go.Proofs.YtikcgcgbcolndaaGreat.Row Go.Proofs.YtikcgcgbcolndaaGreat.Mem Go.Proofs.YtikcgcgbcolndaaGreat.Opt

theorem lwt_small : ∀ (l : List Opt), (∀ o ∈ l, o.2.size ≤ 4) → wt l ≤ 6 * l.length
  | [], _ => Nat.le_refl _
  | o :: l, h => by
    have h1 := lwt_small l (fun p hp => h p (List.mem_cons_of_mem _ hp))
    have h2 := h o (List.mem_cons_self ..)
    simp only [wt, List.length_cons]
    omega
theorem lpe_put (x : Lco.Lcp) : pE (Lco.put x) = 0 := by
  refine pE_zero.2 ⟨by have := Lco.put_len x; omega, ?_, by have := lwt_small _ (Lco.put_size x); have := Lco.put_len x; omega⟩
  unfold big
  rw [List.any_eq_false]
  intro o ho
  have := Lco.put_size x o ho
  simp only [decide_eq_true_eq]
  omega
theorem boxLc (w : World) (q : Nat) : ∃ W, w.alloc (.cells #[.pointer (some ⟨q, 0, none⟩)] 80) = W ∧ Hid (Blk W w.heap.size [.pointer (some ⟨q, 0, none⟩)] 80 ∧ Below w.heap.size w W) :=
  ⟨_, rfl, blk_new w [.pointer (some ⟨q, 0, none⟩)] _, (Below.refl w.heap.size w).alloc (Nat.le_refl _) _⟩
set_option maxHeartbeats 2000000 in
set_option maxRecDepth 100000 in
theorem lc_renew (q : Nat) (p : Pol.Po) (w : World) (d : UInt32) (h : Pol.PAt w q p) : Calls Tryz.prog 257 #[.agg #[ptr q], .int .u32 d.toNat] w fun e w' => e = .returned (.tuple #[]) ∧ Pol.PAt w' q (Pol.newP p.c d) ∧ Moves (fun k => k = q) w w' := by
  obtain ⟨W, hW, HW⟩ := boxLc w q
  have H := Lib.hid (h.callee HW.out.2)
  have M : Hid (Moves (fun k => k = q) w W) := Moves.of_below HW.out.2
  have HR := Lib.hid (Pol.reset_any q p d W H.out)
  have c0 : W.cell? ⟨w.heap.size, 0, none⟩ = some (.pointer (some ⟨q, 0, none⟩)) := HW.out.1.at_ 0
  clear h HW
  unfold ptr
  go_enter Tryz.func257, Tryz.ntmps257
  go_wp2_with fail
  refine HR.out.mono ?_
  rintro e w1 ⟨rfl, hp, hm⟩
  have HP := Lib.hid hp
  have M1 := Lib.hid (M.out.trans hm fun _ _ x => x)
  clear hp hm
  go_wp2
  go_end0
  exact ⟨rfl, HP.out, M1.out⟩
set_option maxHeartbeats 2000000 in
set_option maxRecDepth 100000 in
theorem lc_naked (q : Nat) (p : Pol.Po) (w : World) (d : UInt32) (l : List Opt) (A : Option Addr) (c : Nat) (h : Pol.PAt w q p) (hm : Lco.may p.w = true) (hl : Opts w w.heap.size A l.length l) (h64 : l.length ≤ 64) :
    Calls Tryz.prog 256 #[.agg #[ptr q], .int .u32 d.toNat, .slice A l.length c] w fun e w' => e = .returned (.bool (Pol.nkB l)) ∧ Pol.PAt w' q (Pol.nkP p d l) ∧ Moves (fun k => k = q) w w' := by
  obtain ⟨W, hW, HW⟩ := boxLc w q
  have H := Lib.hid (h.callee HW.out.2)
  have M : Hid (Moves (fun k => k = q) w W) := Moves.of_below HW.out.2
  have HR := Lib.hid (Pol.naked_any q p d l A l.length c W H.out hm (hl.next HW.out.2) (by omega))
  have c0 : W.cell? ⟨w.heap.size, 0, none⟩ = some (.pointer (some ⟨q, 0, none⟩)) := HW.out.1.at_ 0
  clear h HW hl
  unfold ptr
  go_enter Tryz.func256, Tryz.ntmps256
  go_wp2_with fail
  refine HR.out.mono ?_
  rintro e w1 ⟨rfl, hp, hm⟩
  have HP := Lib.hid hp
  have M1 := Lib.hid (M.out.trans hm fun _ _ x => x)
  clear hp hm
  go_wp2
  go_ret
  exact ⟨rfl, HP.out, M1.out⟩
set_option maxHeartbeats 2000000 in
set_option maxRecDepth 100000 in
theorem lc_twin (q : Nat) (p : Pol.Po) (w : World) (h : Pol.PAt w q p) : Calls Tryz.prog 258 #[.agg #[ptr q]] w fun e w' => ∃ q', e = .returned (.iface 80 (.agg #[.pointer (some ⟨q', 0, none⟩)])) ∧ w.heap.size ≤ q' ∧ Pol.PAt w' q' p ∧ Below w.heap.size w w' := by
  obtain ⟨W, hW, HW⟩ := boxLc w q
  have HB := Lib.hid HW.out.2
  have HR := Lib.hid (Pol.copy_any q p W (h.callee HW.out.2))
  have c0 : W.cell? ⟨w.heap.size, 0, none⟩ = some (.pointer (some ⟨q, 0, none⟩)) := HW.out.1.at_ 0
  clear h HW
  unfold ptr
  go_enter Tryz.func258, Tryz.ntmps258
  go_wp2_with fail
  refine HR.out.mono ?_
  rintro e w1 ⟨q', rfl, hq, hp, hb⟩
  have HP := Lib.hid hp
  have HQ : Hid (w.heap.size ≤ q') := Nat.le_trans HB.out.size hq
  have HB1 := Lib.hid (HB.out.trans (hb.mono HB.out.size))
  clear hp hq hb
  go_wp2
  go_ret
  exact ⟨q', rfl, HQ.out, HP.out, HB1.out⟩
def lok (p : Pol.Po) : Prop := Lco.may p.w = true ∧ Pol.mayC p.c = true
set_option maxRecDepth 100000 in
def lcK : Kd where
  α := Pol.Po
  proto := 49185
  ty := 80
  At := Pol.PAt
  lt := Pol.PAt.lt
  moves := fun h hm hs => Pol.PAt.moves h hm hs
  ok := lok
  req := Pol.req
  fRequest := 144
  eRequest := enters_of Tryz.func144 (by kernel_rfl) rfl
  mRequest := fun k hk q w => by subst hk; kernel_rfl
  cRequest := fun q p w h hok => (Pol.request_any q p w h hok.1).mono fun e w' ⟨A, c, he, hO, hb, _⟩ => ⟨A, c, he, hO, hb⟩
  magic := fun p => p.mine.magic
  renew := fun p d => Pol.newP p.c d
  fRenew := 257
  eRenew := enters_of Tryz.func257 (by kernel_rfl) rfl
  mRenew := fun k hk q w => by subst hk; kernel_rfl
  cRenew := fun q p w d h _ => lc_renew q p w d h
  okRenew := fun p d h => ⟨Pol.wish_may d h.2, h.2⟩
  rq := fun p _ => ⟨lpe_put p.w, by have h := Lco.put_len p.w; show (Lco.put p.w).length ≤ _; unfold maxLen; omega⟩
theorem lc_jC (p : Pol.Po) (l : List Opt) : Pol.jC p l < 256 := by
  unfold Pol.jC
  repeat' split
  all_goals decide
theorem vs_len (p : Pol.Po) (l : List Opt) : (Pol.vs p l).length = l.length := by simp [Pol.vs]
theorem lc_jA (p : Pol.Po) (l : List Opt) (h : l.length ≤ 64) : (Pol.jA p l).length ≤ maxLen := by
  have h1 : (Pol.refs (Pol.vs p l)).length ≤ 64 := Nat.le_trans (List.length_filterMap_le _ _) (by rw [vs_len]; exact h)
  have h2 : (Pol.poors (Pol.vs p l)).length ≤ 64 := Nat.le_trans (List.length_filterMap_le _ _) (by rw [vs_len]; exact h)
  have h3 : (Pol.insts (Pol.vs p l)).length ≤ 64 := Nat.le_trans (List.length_filterMap_le _ _) (by rw [vs_len]; exact h)
  have h4 : (64 : Nat) ≤ maxLen := by unfold maxLen; decide
  unfold Pol.jA
  repeat' split
  all_goals omega
theorem loop_wc (p : Pol.Po) (l : List Opt) : (Pol.loopP p l).w = p.w ∧ (Pol.loopP p l).c = p.c := by
  unfold Pol.loopP
  split <;> exact ⟨rfl, rfl⟩
theorem lc_jok (p : Pol.Po) (l : List Opt) (h : lok p) : lok (Pol.jP p l) := by
  obtain ⟨h1, h2⟩ := loop_wc p l
  have : (Pol.jP p l).w = p.w ∧ (Pol.jP p l).c = p.c := by
    unfold Pol.jP
    repeat' split
    all_goals exact ⟨h1, h2⟩
  exact ⟨by rw [this.1]; exact h.1, by rw [this.2]; exact h.2⟩
theorem lc_plain {w : World} {q : Nat} {p : Pol.Po} (h : Pol.PAt w q p) (i : Nat) (s : ByteArray) : w.cell? ⟨q, i, none⟩ ≠ some (.string s) := by
  rw [h.c i]
  intro e
  have h1 := List.mem_of_getElem? e
  simp only [Pol.pv, Pol.cv, Lco.lv, List.mem_append, List.mem_cons, List.not_mem_nil, or_false] at h1
  rcases h1 with h1 | h1 | h1 | h1 | h1 <;> (repeat' (rcases h1 with h1 | h1)) <;> cases h1
set_option maxRecDepth 100000 in
def lcR : Kr lcK where
  plain := fun h i s => lc_plain h i s
  okJ := fun p => p.naks ≤ 1000 ∧ p.loops ≤ 1000000
  jC := Pol.jC
  jA := Pol.jA
  jP := Pol.jP
  jlt := lc_jC
  jlen := lc_jA
  jok := lc_jok
  fJudge := 142
  eJudge := enters_of Tryz.func142 (by kernel_rfl) rfl
  mJudge := fun k hk q w => by subst hk; kernel_rfl
  cJudge := fun q p w l A c h hok hj hl hA hn => Pol.judge_any q p l A l.length c w h hl hA (by omega) hj.1 hj.2
  fTwin := 258
  eTwin := enters_of Tryz.func258 (by kernel_rfl) rfl
  mTwin := fun k hk q w => by subst hk; kernel_rfl
  cTwin := fun q p w h => lc_twin q p w h
theorem lc_akok (p : Pol.Po) (l : List Opt) (h : lok p) : lok (Pol.akP p l) := by
  unfold Pol.akP
  split <;> exact h
theorem lc_rjok (p : Pol.Po) (l : List Opt) (h : lok p) : lok (Pol.rjP p l) := by
  unfold Pol.rjP
  split
  · have : ∀ (l : List Opt) (p : Pol.Po), lok p → lok (l.foldl Pol.dropP p) := by
      intro l
      induction l with
      | nil => exact fun p h => h
      | cons o l ih => exact fun p h => ih _ ⟨Pol.drop_may o.1 h.1, h.2⟩
    exact this l p h
  · exact h
theorem lc_nkok (p : Pol.Po) (d : UInt32) (l : List Opt) (h : lok p) : lok (Pol.nkP p d l) := by
  refine ⟨Pol.nkP_may d l h.1, ?_⟩
  unfold Pol.nkP
  split <;> exact h.2
set_option maxRecDepth 100000 in
def lcA : Rp lcK "Acked" where
  b := Pol.akB
  p := Pol.akP
  ok := lc_akok
  f := 141
  e := enters_of Tryz.func141 (by kernel_rfl) rfl
  m := fun k hk q w => by subst hk; kernel_rfl
  c := fun q p w l A c h hok hl _ hn => Pol.acked_any q p l A l.length c w h hok.1 hl (by omega)
set_option maxRecDepth 100000 in
def lcJ : Rp lcK "Rejected" where
  b := Pol.rjB
  p := Pol.rjP
  ok := lc_rjok
  f := 143
  e := enters_of Tryz.func143 (by kernel_rfl) rfl
  m := fun k hk q w => by subst hk; kernel_rfl
  c := fun q p w l A c h hok hl _ hn => Pol.rejected_any q p l A l.length c w h hok.1 hl (by omega)
set_option maxRecDepth 100000 in
def lcN : Rn lcK where
  b := fun _ _ l => Pol.nkB l
  p := Pol.nkP
  ok := lc_nkok
  f := 256
  e := enters_of Tryz.func256 (by kernel_rfl) rfl
  m := fun k hk q w => by subst hk; kernel_rfl
  c := fun q p w d l A c h hok hl _ hn => lc_naked q p w d l A c h hok.1 hl hn
end Go.Proofs.YtikcgcgbcolndaaGreat.Neg

/- Sides of LCP: made; the policy that is told; two policies that are alike. -/
namespace Go.Proofs.YtikcgcgbcolndaaGreat.Neg
open Go.RowKit Go.Proofs.YtikcgcgbcolndaaGreat.Oct Go.Proofs.YtikcgcgbcolndaaGreat.Row Go.Proofs.YtikcgcgbcolndaaGreat.Mem Go.Proofs.YtikcgcgbcolndaaGreat.Opt Go.Proofs.YtikcgcgbcolndaaGreat.Fsm
open Go.Proofs.YtikcgcgbcolndaaGreat.Aut (Au Aut Inv)

theorem boxAL (w : World) (a b d : Int) (c : Pol.Conf) : ∃ W, (w.alloc (.cells #[.int .i64 a, .int .i64 b, .int .i64 d] 34)).alloc (.cells #[Value.int .u16 c.mru.toNat, .bool c.ha, .int .u32 c.accm.toNat, .int .u8 c.auth.toNat, .int .u8 c.takes.toNat, .int .u8 c.can.toNat, .bool c.mg, .bool c.pfc, .bool c.acfc, .int .i64 c.mn] 25) = W ∧
    Hid (Blk W w.heap.size [.int .i64 a, .int .i64 b, .int .i64 d] 34 ∧ Pol.CAt W (w.heap.size + 1) c ∧ Below w.heap.size w W) := by
  refine ⟨_, rfl, (blk_new w [.int .i64 a, .int .i64 b, .int .i64 d] _).alloc _, ?_, ((Below.refl w.heap.size w).alloc (Nat.le_refl _) _).alloc (by rw [World.size_alloc]; exact Nat.le_succ _) _⟩
  have := Pol.cat_new (w.alloc (.cells #[.int .i64 a, .int .i64 b, .int .i64 d] 34)) c
  rw [World.size_alloc] at this
  exact this
def lcV (c : Pol.Conf) : Value := .agg #[Value.int .u16 c.mru.toNat, .bool c.ha, .int .u32 c.accm.toNat, .int .u8 c.auth.toNat, .int .u8 c.takes.toNat, .int .u8 c.can.toNat, .bool c.mg, .bool c.pfc, .bool c.acfc, .int .i64 c.mn]
def LNewQ (s : Sd lcK) (w : World) (e : Ending) (w' : World) : Prop :=
  ∃ g a q, e = .returned (.tuple #[.pointer (some ⟨g, 0, none⟩), .int .i64 0]) ∧ w.heap.size ≤ g ∧ w.heap.size ≤ a ∧ w.heap.size ≤ q ∧ SAt lcK w' g a q s ∧ Below w.heap.size w w'
set_option maxHeartbeats 2000000 in
set_option maxRecDepth 100000 in
theorem lcp_ok (r mc mt : Nat) (c : Pol.Conf) (m : UInt32) (w : World) (h : Aut.may r mc mt = true) (hc : Pol.mayC c = true) :
    Calls Tryz.prog 9 #[.agg #[.int .i64 r, .int .i64 mc, .int .i64 mt], .agg #[Value.int .u16 c.mru.toNat, .bool c.ha, .int .u32 c.accm.toNat, .int .u8 c.auth.toNat, .int .u8 c.takes.toNat, .int .u8 c.can.toNat, .bool c.mg, .bool c.pfc, .bool c.acfc, .int .i64 c.mn], .int .u32 m.toNat] w (LNewQ (newSd lcK r mc mt (Pol.newP c m)) w) := by
  obtain ⟨W, hW, HW⟩ := boxAL w r mc mt c
  have HB := Lib.hid HW.out.2.2
  have HA := Lib.hid HW.out.1
  have HN := Lib.hid (Pol.new_ok c m W hc)
  obtain ⟨c0, c1, c2, c3, c4, c5, c6, c7, c8, c9⟩ := HW.out.2.1.all
  have HM : Hid (∀ q w, Pol.PAt w q (Pol.newP c m) → Calls Tryz.prog 33 #[.agg #[.int .i64 r, .int .i64 mc, .int .i64 mt], .int .u16 49185, .iface 80 (.agg #[.pointer (some ⟨q, 0, none⟩)])] w (MadeQ lcK q (newSd lcK r mc mt (Pol.newP c m)) w)) := fun q w hp => made_ok lcK q r mc mt (Pol.newP c m) w hp h
  clear h hc HW
  go_enter Tryz.func9, Tryz.ntmps9
  go_wp2_with fail
  refine HN.out.mono ?_
  rintro e w1 ⟨q, rfl, hgq, hp, hb1⟩
  have HP := Lib.hid hp
  have HB1 := Lib.hid (HB.out.trans (hb1.mono HB.out.size))
  have hwq : Hid (w.heap.size ≤ q) := Nat.le_trans HB.out.size hgq
  have HA1 := Lib.hid (HA.out.callee hb1)
  clear hgq hp hb1 hW c0 c1 c2 c3 c4 c5 c6 c7 c8 c9 HA
  have c0 : w1.cell? ⟨w.heap.size, 0, none⟩ = some (.int .i64 r) := HA1.out.at_ 0
  have c1 : w1.cell? ⟨w.heap.size, 1, none⟩ = some (.int .i64 mc) := HA1.out.at_ 1
  have c2 : w1.cell? ⟨w.heap.size, 2, none⟩ = some (.int .i64 mt) := HA1.out.at_ 2
  go_wp2_with fail
  refine (HM.out _ _ HP.out).mono ?_
  rintro e w2 ⟨g, a, rfl, hg, ha, hs, hb2⟩
  have HS := Lib.hid hs
  have HB2 := Lib.hid (HB1.out.trans (hb2.mono HB1.out.size))
  have hw2 : Hid (w.heap.size ≤ g ∧ w.heap.size ≤ a) := ⟨Nat.le_trans HB1.out.size hg, Nat.le_trans HB1.out.size ha⟩
  clear hg ha hs hb2
  go_wp2
  go_ret2
  exact ⟨g, a, q, rfl, hw2.out.1, hw2.out.2, hwq.out, HS.out, HB2.out⟩
set_option maxHeartbeats 2000000 in
set_option maxRecDepth 100000 in
theorem lcp_no (x y z : Int) (c : Pol.Conf) (m : UInt32) (w : World) (hc : Pol.mayC c = false) :
    Calls Tryz.prog 9 #[.agg #[.int .i64 x, .int .i64 y, .int .i64 z], .agg #[Value.int .u16 c.mru.toNat, .bool c.ha, .int .u32 c.accm.toNat, .int .u8 c.auth.toNat, .int .u8 c.takes.toNat, .int .u8 c.can.toNat, .bool c.mg, .bool c.pfc, .bool c.acfc, .int .i64 c.mn], .int .u32 m.toNat] w (NoQ w) := by
  obtain ⟨W, hW, HW⟩ := boxAL w x y z c
  have HB := Lib.hid HW.out.2.2
  obtain ⟨c0, c1, c2, c3, c4, c5, c6, c7, c8, c9⟩ := HW.out.2.1.all
  have HN := Lib.hid (Pol.new_no c m W hc)
  clear hc HW
  go_enter Tryz.func9, Tryz.ntmps9
  go_wp2_with fail
  refine HN.out.mono ?_
  rintro e w1 ⟨rfl, hb1⟩
  have HB1 := Lib.hid (HB.out.trans (hb1.mono HB.out.size))
  clear hb1 hW c0 c1 c2 c3 c4 c5 c6 c7 c8 c9
  go_wp2
  go_ret2
  exact ⟨rfl, HB1.out⟩
/-! ### the policy that is told -/
set_option maxHeartbeats 2000000 in
set_option maxRecDepth 100000 in
theorem side_lcp (g a q : Nat) (s : Sd lcK) (w : World) (h : SAt lcK w g a q s) : Calls Tryz.prog 13 #[.pointer (some ⟨g, 0, none⟩)] w fun e w' => ∃ b, e = .returned (.pointer (some ⟨b, 0, none⟩)) ∧ w.heap.size ≤ b ∧ Pol.PAt w' b s.p ∧ Below w.heap.size w w' := by
  have c2 : w.cell? ⟨g, 2, none⟩ = some (.iface 80 (.agg #[.pointer (some ⟨q, 0, none⟩)])) := h.c 2
  have HP : Hid (Pol.PAt w q s.p) := h.2.2.1
  have HC := Lib.hid (fun w h => Pol.copy_any q s.p w h)
  have ht : ∀ w, (Instr.typeAssert (.iface 80 (.agg #[.pointer (some ⟨q, 0, none⟩)])) 87 80 true).run Tryz.prog w = .ok (.tuple #[.agg #[.pointer (some ⟨q, 0, none⟩)], .bool true]) w := fun w => by kernel_rfl
  have hb := (Below.refl w.heap.size w).alloc (Nat.le_refl _) (.cells #[.pointer (some ⟨q, 0, none⟩)] 80)
  have HP1 := Lib.hid (HP.out.callee hb)
  have HB := Lib.hid hb
  clear h hb
  go_enter Tryz.func13, Tryz.ntmps13
  go_wp2_with fail
  refine (HC.out _ HP1.out).mono ?_
  rintro e w1 ⟨b, rfl, hq, hp, hb1⟩
  have HP2 := Lib.hid hp
  have HQ : Hid (w.heap.size ≤ b) := Nat.le_trans HB.out.size hq
  have HB1 := Lib.hid (HB.out.trans (hb1.mono HB.out.size))
  clear hq hp hb1
  go_wp2
  go_ret
  exact ⟨b, rfl, HQ.out, HP2.out, HB1.out⟩
/-! ### same -/
set_option maxHeartbeats 4000000 in
set_option maxRecDepth 100000 in
theorem same_pol (b b' : Nat) (p p' : Pol.Po) (w : World) (h : Pol.PAt w b p) (h' : Pol.PAt w b' p') (hw : p'.w = p.w) (hm : p'.mine = p.mine) (hr : p'.peer = p.peer) :
    Calls Tryz.prog 26 #[.pointer (some ⟨b, 0, none⟩), .pointer (some ⟨b', 0, none⟩)] w fun e w' => e = .returned (.bool true) ∧ Below w.heap.size w w' := by
  have H := Lib.hid h
  have H' := Lib.hid h'
  have HL : ∀ (x : Lco.Lcp), Hid (∀ w, (binOp .eql 42 (.agg (Lco.lv x).toArray) (.agg (Lco.lv x).toArray)).run Tryz.prog w = .ok (.bool true) w) := fun x w => Lco.lcp_eql (x := x) (y := x) (decide_eq_true rfl) w
  have HW1 := Lib.hid (fun w h => Pol.wish_any b p w h)
  have HW2 := Lib.hid (fun w h => Pol.wish_any b' p' w h)
  have HM1 := Lib.hid (fun w h => Pol.mine_any b p w h)
  have HM2 := Lib.hid (fun w h => Pol.mine_any b' p' w h)
  have HR1 := Lib.hid (fun w h => Pol.peer_any b p w h)
  have HR2 := Lib.hid (fun w h => Pol.peer_any b' p' w h)
  rw [hw] at HW2
  rw [hm] at HM2
  rw [hr] at HR2
  have e1 := (HL p.w).out
  have e2 := (HL p.mine).out
  have e3 := (HL p.peer).out
  unfold Pol.BetQ at *
  generalize (Lco.lv p.w).toArray = V1 at *
  generalize (Lco.lv p.mine).toArray = V2 at *
  generalize (Lco.lv p.peer).toArray = V3 at *
  clear h h' hw hm hr HL
  go_enter Tryz.func26, Tryz.ntmps26
  go_wp2_with fail
  refine (HW1.out _ H.out).mono ?_
  rintro e w1 ⟨rfl, hb⟩
  have G1 := Lib.hid (H.out.callee hb)
  have K1 := Lib.hid (H'.out.callee hb)
  have B1 := Lib.hid hb
  clear hb H H'
  go_wp2_with fail
  refine (HW2.out _ K1.out).mono ?_
  rintro e w2 ⟨rfl, hb⟩
  have G2 := Lib.hid (G1.out.callee hb)
  have K2 := Lib.hid (K1.out.callee hb)
  have B2 := Lib.hid (B1.out.trans (hb.mono B1.out.size))
  clear hb G1 K1
  go_wp2_with fail
  refine (HM1.out _ G2.out).mono ?_
  rintro e w3 ⟨rfl, hb⟩
  have G3 := Lib.hid (G2.out.callee hb)
  have K3 := Lib.hid (K2.out.callee hb)
  have B3 := Lib.hid (B2.out.trans (hb.mono B2.out.size))
  clear hb G2 K2
  go_wp2_with fail
  refine (HM2.out _ K3.out).mono ?_
  rintro e w4 ⟨rfl, hb⟩
  have G4 := Lib.hid (G3.out.callee hb)
  have K4 := Lib.hid (K3.out.callee hb)
  have B4 := Lib.hid (B3.out.trans (hb.mono B3.out.size))
  clear hb G3 K3
  go_wp2_with fail
  refine (HR1.out _ G4.out).mono ?_
  rintro e w5 ⟨rfl, hb⟩
  have G5 := Lib.hid (G4.out.callee hb)
  have K5 := Lib.hid (K4.out.callee hb)
  have B5 := Lib.hid (B4.out.trans (hb.mono B4.out.size))
  clear hb G4 K4
  go_wp2_with fail
  refine (HR2.out _ K5.out).mono ?_
  rintro e w6 ⟨rfl, hb⟩
  have G6 := Lib.hid (G5.out.callee hb)
  have K6 := Lib.hid (K5.out.callee hb)
  have B6 := Lib.hid (B5.out.trans (hb.mono B5.out.size))
  clear hb G5 K5
  go_wp2
  go_ret
  exact ⟨rfl, B6.out⟩
end Go.Proofs.YtikcgcgbcolndaaGreat.Neg

/- A side of LCP that hears one packet. Written by gen/neg_x.py. -/
namespace Go.Proofs.YtikcgcgbcolndaaGreat.Neg
open Go.RowKit Go.Proofs.YtikcgcgbcolndaaGreat.Oct Go.Proofs.YtikcgcgbcolndaaGreat.Row Go.Proofs.YtikcgcgbcolndaaGreat.Mem Go.Proofs.YtikcgcgbcolndaaGreat.Opt Go.Proofs.YtikcgcgbcolndaaGreat.Fsm
open Go.Proofs.YtikcgcgbcolndaaGreat.Aut (Au Aut Inv evA evE evX)

theorem rp_all (s : Sd lcK) {nm : String} (R : Rp lcK nm) (hok : Ok s) (h6 : s.asked = true → s.x.s = 6) (i : In) (hi : i.code < 256) (ev : Nat) (he : evE s.x ev = 0) (h4 : has (evA s.x ev) 4096 = false) :
    ∃ (s' : Sd lcK) (l : List Pk) (T P : Int) (b : Bool), (∀ g a q A n c W, SAt lcK W g a q s → Ans W g a q A n i.ans → Calls Tryz.prog 87 #[.pointer (some ⟨g, 0, none⟩), .agg #[.int .u32 i.draw, .int .u8 i.p.c.toNat, .int .u8 i.p.i.toNat, .string i.p.d, .int .u8 i.code, .slice A n c], .int .u8 ev, .func (.methodOf 87 nm) #[] #[]] W (OutQ lcK g a q s' l T P b W)) ∧
      ((s.asked = false ∨ i.p.i.toNat ≠ s.last) → s' = s ∧ l = [] ∧ T = 0) := by
  cases ha : s.asked
  · exact ⟨s, [], 0, 0, false, fun g a q A n c W h _ => reply_none lcK g a q s i A n c ev _ W h ha, fun _ => ⟨rfl, rfl, rfl⟩⟩
  by_cases hd : i.p.i.toNat = s.last
  · have no : ¬ ((true : Bool) = false ∨ i.p.i.toNat ≠ s.last) := by simp [hd]
    by_cases hE : gE i.p.d.toList = 0
    · cases hb : R.b s.p (gL i.p.d.toList)
      · exact ⟨_, _, _, _, _, fun g a q A n c W h _ => reply_leave lcK nm R g a q s i A n c ev W h hok (.inl (h6 ha)) ha hd hE hb, fun hh => absurd hh no⟩
      · exact ⟨_, _, _, _, _, fun g a q A n c W h hA => reply_take lcK nm R g a q s i A n c ev W h hok (.inl (h6 ha)) ha hd hE hb hA hi he h4, fun hh => absurd hh no⟩
    · exact ⟨s, [], 0, 0, false, fun g a q A n c W h _ => reply_bad lcK g a q s i A n c ev _ W h ha hd hE, fun _ => ⟨rfl, rfl, rfl⟩⟩
  · exact ⟨s, [], 0, 0, false, fun g a q A n c W h _ => reply_other lcK g a q s i A n c ev _ W h ha hd, fun _ => ⟨rfl, rfl, rfl⟩⟩
theorem nk_all (s : Sd lcK) (R : Rn lcK) (dr : UInt32) (hok : Ok s) (h6 : s.asked = true → s.x.s = 6) (i : In) (hi : i.code < 256) (ev : Nat) (he : evE s.x ev = 0) (h4 : has (evA s.x ev) 4096 = false) :
    ∃ (s' : Sd lcK) (l : List Pk) (T P : Int) (b : Bool), (∀ g a q A n c W, SAt lcK W g a q s → Ans W g a q A n i.ans → ∀ bx, W.cell? ⟨bx, 0, none⟩ = some (.int .u32 i.draw) → ¬ My g a q bx → i.draw = dr.toNat → Calls Tryz.prog 87 #[.pointer (some ⟨g, 0, none⟩), .agg #[.int .u32 i.draw, .int .u8 i.p.c.toNat, .int .u8 i.p.i.toNat, .string i.p.d, .int .u8 i.code, .slice A n c], .int .u8 ev, .func (.func 88) #[] #[.pointer (some ⟨bx, 0, none⟩)]] W (OutQ lcK g a q s' l T P b W)) ∧
      ((s.asked = false ∨ i.p.i.toNat ≠ s.last) → s' = s ∧ l = [] ∧ T = 0) := by
  cases ha : s.asked
  · exact ⟨s, [], 0, 0, false, fun g a q A n c W h _ bx hx hm hdr => reply_none lcK g a q s i A n c ev _ W h ha, fun _ => ⟨rfl, rfl, rfl⟩⟩
  by_cases hd : i.p.i.toNat = s.last
  · have no : ¬ ((true : Bool) = false ∨ i.p.i.toNat ≠ s.last) := by simp [hd]
    by_cases hE : gE i.p.d.toList = 0
    · cases hb : R.b s.p dr (gL i.p.d.toList)
      · exact ⟨_, _, _, _, _, fun g a q A n c W h _ bx hx hm hdr => nak_leave lcK R dr bx g a q s i A n c ev W h hok (.inl (h6 ha)) ha hd hE hb hdr hx hm, fun hh => absurd hh no⟩
      · exact ⟨_, _, _, _, _, fun g a q A n c W h hA bx hx hm hdr => nak_take lcK R dr bx g a q s i A n c ev W h hok (.inl (h6 ha)) ha hd hE hb hdr hx hm hA hi he h4, fun hh => absurd hh no⟩
    · exact ⟨s, [], 0, 0, false, fun g a q A n c W h _ bx hx hm hdr => reply_bad lcK g a q s i A n c ev _ W h ha hd hE, fun _ => ⟨rfl, rfl, rfl⟩⟩
  · exact ⟨s, [], 0, 0, false, fun g a q A n c W h _ bx hx hm hdr => reply_other lcK g a q s i A n c ev _ W h ha hd, fun _ => ⟨rfl, rfl, rfl⟩⟩
theorem knows {c : Nat} (h1 : 1 ≤ c) (h2 : c ≤ 11) : Pkt.known lcK.proto c = true := by
  show Pkt.known 49185 c = true
  rw [Pkt.known_z]
  simp
  omega
theorem knows_not {c : Nat} (h : c = 0 ∨ 11 < c) : Pkt.known lcK.proto c = false := by
  show Pkt.known 49185 c = false
  rw [Pkt.known_z]
  simp
  omega
theorem pk_known (s : Sd lcK) (hs : s.x.s ≠ 0) (hs1 : s.x.s ≠ 1) (p : Pk) (d : UInt32) (h1 : 1 ≤ p.c.toNat) (h2 : p.c.toNat ≤ 11) (s' : Sd lcK) (l : List Pk) (T P : Int) (b : Bool) (f : FuncId) (hf : fE p.c.toNat = f)
    (hget : ∀ g a q W, SAt lcK W g a q s → Ans W g a q none 0 [] → Calls Tryz.prog f #[.pointer (some ⟨g, 0, none⟩), .agg #[.int .u32 (d.toNat : Nat), .int .u8 p.c.toNat, .int .u8 p.i.toNat, .string p.d, .int .u8 (0 : Nat), .slice none 0 0]] W (OutQ lcK g a q s' l T P b W)) :
    ∀ g a q w, SAt lcK w g a q s → Calls Tryz.prog 25 #[.pointer (some ⟨g, 0, none⟩), .agg #[.int .u8 p.c.toNat, .int .u8 p.i.toNat, .string p.d], .int .u32 d.toNat] w (PakQ lcK g a q s' l T P b w) := by
  subst hf
  intro g a q w h
  exact packet_any lcK g a q s s' p d l T P b w h (fun W hW => receive_known lcK g a q s ⟨d.toNat, p, 0, []⟩ none 0 0 W hW hs hs1 (ans_nil W g a q) (knows h1 h2) h1 h2 s' l T P b (fun U hU hA => hget g a q U hU hA))
theorem tab_two : ∀ ev, ev < 16 → 6 ≤ ev → (nE 2 ev = 0 ∧ has (nA 2 ev) 4096 = false ∧ nN 2 ev ≠ 9) ∧ (nE 6 ev = 0 ∧ has (nA 6 ev) 4096 = false ∧ nN 6 ev ≠ 9) := by decide +kernel
theorem ev_tab {x : Au} (hs : x.s = 2 ∨ x.s = 6) {ev : Nat} (h1 : 6 ≤ ev) (h2 : ev < 16) : evE x ev = 0 ∧ has (evA x ev) 4096 = false ∧ (evX x ev).s ≠ 9 := by
  obtain ⟨⟨a1, a2, a3⟩, b1, b2, b3⟩ := tab_two ev h2 h1
  have hn : ¬ (ev = 4 ∨ ev = 5) := by omega
  unfold evE evA evX
  rw [if_neg hn, if_neg hn, if_neg hn]
  unfold Aut.come
  rcases hs with hs | hs
  · rw [hs, if_pos a1]
    exact ⟨a1, a2, a3⟩
  · rw [hs, if_pos b1]
    exact ⟨b1, b2, b3⟩
theorem fol_px {K : Kd} (i : In) (ev : Nat) (s : Sd K) : (fol i ev s).1.p = s.p ∧ (fol i ev s).1.x = evX s.x ev := by
  obtain ⟨h1, h2, _⟩ := perL_x i (bitsTo (evA s.x ev) 13) (({ s with x := evX s.x ev } : Sd K), [])
  exact ⟨h2, h1⟩
/-- What one packet comes to. -/
def Hears (s : Sd lcK) (p : Pk) (d : UInt32) : Prop :=
  ∃ (s' : Sd lcK) (l : List Pk) (T P : Int) (b : Bool), (∀ g a q w, SAt lcK w g a q s → Calls Tryz.prog 25 #[.pointer (some ⟨g, 0, none⟩), .agg #[.int .u8 p.c.toNat, .int .u8 p.i.toNat, .string p.d], .int .u32 d.toNat] w (PakQ lcK g a q s' l T P b w)) ∧
    (2 ≤ p.c.toNat → p.c.toNat ≤ 4 → (s.asked = false ∨ p.i.toNat ≠ s.last) → s' = s ∧ l = [] ∧ T = 0) ∧ (p.c.toNat = 0 ∨ 4 < p.c.toNat → s'.p = s.p)
theorem inner_ex (p : Pk) (hd : p.d.size ≤ maxLen) : ∃ (pk : Pk) (er : Nat), ∀ W, Calls Tryz.prog 89 #[.agg #[.int .u8 p.c.toNat, .int .u8 p.i.toNat, .string p.d]] W fun e w' => e = .returned (.tuple #[.agg #[.int .u8 pk.c.toNat, .int .u8 pk.i.toNat, .string pk.d], .int .i64 er]) ∧ Below W.heap.size W w' := by
  cases hc : ((p.c.toNat : Int) != 7)
  · by_cases h4 : p.d.size < 4
    · exact ⟨zpk, 6, fun W => Rej.inner_short p.c p.i p.d W hc h4⟩
    · exact ⟨⟨_, _, _⟩, 0, fun W => Rej.inner_ok p.c p.i p.d _ _ W hc (by omega) hd rfl rfl⟩
  · exact ⟨zpk, 2, fun W => Rej.inner_no p.c p.i p.d W hc⟩
theorem rejected_ex (p : Pk) (hd : p.d.size ≤ maxLen) : ∃ (x : Nat) (y : ByteArray) (er : Nat), ∀ W, Calls Tryz.prog 90 #[.agg #[.int .u8 p.c.toNat, .int .u8 p.i.toNat, .string p.d]] W fun e w' => e = .returned (.tuple #[.int .u16 x, .string y, .int .i64 er]) ∧ Below W.heap.size W w' := by
  cases hc : ((p.c.toNat : Int) != 8)
  · by_cases h4 : p.d.size < 2
    · exact ⟨0, ⟨#[]⟩, 6, fun W => Rej.rejected_short p.c p.i p.d W hc h4⟩
    · exact ⟨_, _, 0, fun W => Rej.rejected_ok p.c p.i p.d _ _ W hc (by omega) hd rfl rfl⟩
  · exact ⟨0, ⟨#[]⟩, 2, fun W => Rej.rejected_no p.c p.i p.d W hc⟩
theorem hears (s : Sd lcK) (hs : s.x.s = 2 ∨ s.x.s = 6) (hok : Ok s) (h6 : s.asked = true → s.x.s = 6) (hJ : s.p.naks ≤ 1000 ∧ s.p.loops ≤ 1000000) (p : Pk) (hd : p.d.size ≤ maxLen) (d : UInt32) : Hears s p d := by
  have hs0 : s.x.s ≠ 0 := by omega
  have hs1 : s.x.s ≠ 1 := by omega
  have ht : ∀ ev, 6 ≤ ev → ev < 16 → evE s.x ev = 0 ∧ has (evA s.x ev) 4096 = false ∧ (evX s.x ev).s ≠ 9 := fun ev h1 h2 => ev_tab hs h1 h2
  have i0 : (⟨d.toNat, p, 0, []⟩ : In).code < 256 := (show 0 < 256 by decide)
  by_cases hk : p.c.toNat = 0 ∨ 11 < p.c.toNat
  · refine ⟨_, _, _, _, _, fun g a q w h => packet_any lcK g a q s _ p d _ _ _ _ w h (fun W hW => receive_ruc lcK g a q s ⟨d.toNat, p, 0, []⟩ none 0 0 W hW hs0 hs1 (ans_nil W g a q) (knows_not hk) hok i0 (ht 12 (by decide) (by decide)).1 (ht 12 (by decide) (by decide)).2.1), fun h1 h2 => by omega, fun _ => (fol_px _ _ _).1⟩
  rcases (show p.c.toNat = 1 ∨ p.c.toNat = 2 ∨ p.c.toNat = 3 ∨ p.c.toNat = 4 ∨ p.c.toNat = 5 ∨ p.c.toNat = 6 ∨ p.c.toNat = 7 ∨ p.c.toNat = 8 ∨ p.c.toNat = 9 ∨ p.c.toNat = 10 ∨ p.c.toNat = 11 by omega) with hc | hc | hc | hc | hc | hc | hc | hc | hc | hc | hc
  · by_cases hE : gE p.d.toList = 0
    · rcases hs with h2 | h2
      · exact ⟨_, _, _, _, _, pk_known s hs0 hs1 p d (by omega) (by omega) _ _ _ _ _ 65 (by rw [hc]; rfl) (fun g a q W h hA => req_shut lcK g a q s ⟨d.toNat, p, 0, []⟩ none 0 0 W h hok hA i0 hE (.inl h2) (ht 6 (by decide) (by decide)).1 (ht 6 (by decide) (by decide)).2.1), fun h1 h2 => by omega, fun h => by omega⟩
      · have hr : ren 6 d s = s := by
          unfold ren anew
          rw [h2]
          rfl
        exact ⟨_, _, _, _, _, pk_known s hs0 hs1 p d (by omega) (by omega) _ _ _ _ _ 65 (by rw [hc]; rfl) (fun g a q W h hA => req_judged lcK lcR g a q s ⟨d.toNat, p, 0, []⟩ d rfl none 0 0 W h hok hE (by omega) (by omega) (by omega) (by rw [hr]; exact hJ) (fun ev he => by
          rcases he with rfl | rfl
          · exact ⟨(ht 6 (by decide) (by decide)).1, (ht 6 (by decide) (by decide)).2.1⟩
          · exact ⟨(ht 7 (by decide) (by decide)).1, (ht 7 (by decide) (by decide)).2.1⟩) _ rfl), fun h1 h2 => by omega, fun h => by omega⟩
    · exact ⟨_, _, _, _, _, pk_known s hs0 hs1 p d (by omega) (by omega) s [] 0 0 false 65 (by rw [hc]; rfl) (fun g a q W h hA => req_bad lcK g a q s ⟨d.toNat, p, 0, []⟩ none 0 0 W h hE), fun h1 h2 => by omega, fun h => by omega⟩
  · obtain ⟨s', l, T, P, b, h1, h2⟩ := rp_all s lcA hok h6 ⟨d.toNat, p, 0, []⟩ i0 8 (ht 8 (by decide) (by decide)).1 (ht 8 (by decide) (by decide)).2.1
    exact ⟨s', l, T, P, b, pk_known s hs0 hs1 p d (by omega) (by omega) _ _ _ _ _ 66 (by rw [hc]; rfl) (fun g a q W h hA => get_ack lcK g a q s ⟨d.toNat, p, 0, []⟩ none 0 0 W h hA s' l T P b (fun U hU hA2 => h1 g a q none 0 0 U hU hA2)), fun _ _ hh => h2 hh, fun h => by omega⟩
  · obtain ⟨s', l, T, P, b, h1, h2⟩ := nk_all s lcN d hok h6 ⟨d.toNat, p, 0, []⟩ i0 9 (ht 9 (by decide) (by decide)).1 (ht 9 (by decide) (by decide)).2.1
    exact ⟨s', l, T, P, b, pk_known s hs0 hs1 p d (by omega) (by omega) _ _ _ _ _ 67 (by rw [hc]; rfl) (fun g a q W h hA => get_nak lcK g a q s ⟨d.toNat, p, 0, []⟩ none 0 0 W h hA s' l T P b (fun U bx hU hA2 hx hm => h1 g a q none 0 0 U hU hA2 bx hx hm rfl)), fun _ _ hh => h2 hh, fun h => by omega⟩
  · obtain ⟨s', l, T, P, b, h1, h2⟩ := rp_all s lcJ hok h6 ⟨d.toNat, p, 0, []⟩ i0 9 (ht 9 (by decide) (by decide)).1 (ht 9 (by decide) (by decide)).2.1
    exact ⟨s', l, T, P, b, pk_known s hs0 hs1 p d (by omega) (by omega) _ _ _ _ _ 68 (by rw [hc]; rfl) (fun g a q W h hA => get_reject lcK g a q s ⟨d.toNat, p, 0, []⟩ none 0 0 W h hA s' l T P b (fun U hU hA2 => h1 g a q none 0 0 U hU hA2)), fun _ _ hh => h2 hh, fun h => by omega⟩
  · exact ⟨_, _, _, _, _, pk_known s hs0 hs1 p d (by omega) (by omega) _ _ _ _ _ 69 (by rw [hc]; rfl) (fun g a q W h hA => term_get lcK g a q s ⟨d.toNat, p, 0, []⟩ none 0 0 W h hok hA i0 (ht 10 (by decide) (by decide)).1 (ht 10 (by decide) (by decide)).2.1), fun h1 h2 => by omega, fun _ => (fol_px _ _ _).1⟩
  · exact ⟨_, _, _, _, _, pk_known s hs0 hs1 p d (by omega) (by omega) _ _ _ _ _ 70 (by rw [hc]; rfl) (fun g a q W h hA => get_tack lcK g a q s ⟨d.toNat, p, 0, []⟩ none 0 0 W h hA hok i0 (ht 11 (by decide) (by decide)).1 (ht 11 (by decide) (by decide)).2.1), fun h1 h2 => by omega, fun _ => (fol_px _ _ _).1⟩
  · obtain ⟨pk, er, hin⟩ := inner_ex p hd
    by_cases h0 : er = 0
    · by_cases h17 : 1 ≤ pk.c.toNat ∧ pk.c.toNat ≤ 7
      · exact ⟨_, _, _, _, _, pk_known s hs0 hs1 p d (by omega) (by omega) _ _ _ _ _ 71 (by rw [hc]; rfl) (fun g a q W h hA => get_code_no lcK g a q s ⟨d.toNat, p, 0, []⟩ none 0 0 W h hA pk er hin h0 h17.1 h17.2 hok i0 (ht 14 (by decide) (by decide)).1 (ht 14 (by decide) (by decide)).2.1), fun h1 h2 => by omega, fun _ => (fol_px _ _ _).1⟩
      · exact ⟨_, _, _, _, _, pk_known s hs0 hs1 p d (by omega) (by omega) _ _ _ _ _ 71 (by rw [hc]; rfl) (fun g a q W h hA => get_code_up lcK g a q s ⟨d.toNat, p, 0, []⟩ none 0 0 W h hA pk er hin h0 (by omega) hok i0 (ht 13 (by decide) (by decide)).1 (ht 13 (by decide) (by decide)).2.1), fun h1 h2 => by omega, fun _ => (fol_px _ _ _).1⟩
    · exact ⟨_, _, _, _, _, pk_known s hs0 hs1 p d (by omega) (by omega) s [] 0 0 false 71 (by rw [hc]; rfl) (fun g a q W h hA => get_code_bad lcK g a q s ⟨d.toNat, p, 0, []⟩ none 0 0 W h hA pk er hin h0), fun h1 h2 => by omega, fun _ => rfl⟩
  · obtain ⟨x, y, er, hin⟩ := rejected_ex p hd
    exact ⟨_, _, _, _, _, pk_known s hs0 hs1 p d (by omega) (by omega) s [] 0 0 false 72 (by rw [hc]; rfl) (fun g a q W h hA => get_proto lcK g a q s ⟨d.toNat, p, 0, []⟩ none 0 0 W h hA x y er hin (by omega)), fun h1 h2 => by omega, fun _ => rfl⟩
  all_goals
    by_cases h4 : p.d.size < 4
    · exact ⟨_, _, _, _, _, pk_known s hs0 hs1 p d (by omega) (by omega) s [] 0 0 false 73 (by rw [hc]; rfl) (fun g a q W h hA => get_echo_short lcK g a q s ⟨d.toNat, p, 0, []⟩ none 0 0 W h hA h4), fun h1 h2 => by omega, fun _ => rfl⟩
    · exact ⟨_, _, _, _, _, pk_known s hs0 hs1 p d (by omega) (by omega) _ _ _ _ _ 73 (by rw [hc]; rfl) (fun g a q W h hA => get_echo lcK g a q s ⟨d.toNat, p, 0, []⟩ none 0 0 W h hA h4 hok i0 (ht 15 (by decide) (by decide)).1 (ht 15 (by decide) (by decide)).2.1 (by rw [(fol_px _ _ _).2]; exact (ht 15 (by decide) (by decide)).2.2)), fun h1 h2 => by omega, fun _ => (fol_px _ _ _).1⟩
/-- In Initial and Starting. -/
theorem hears_no (s : Sd lcK) (hs : s.x.s = 0 ∨ s.x.s = 1) (p : Pk) (d : UInt32) : ∀ g a q w, SAt lcK w g a q s → Calls Tryz.prog 25 #[.pointer (some ⟨g, 0, none⟩), .agg #[.int .u8 p.c.toNat, .int .u8 p.i.toNat, .string p.d], .int .u32 d.toNat] w (PakQ lcK g a q s [] 0 0 false w) :=
  fun g a q w h => packet_any lcK g a q s s p d [] 0 0 false w h (fun W hW => receive_deaf lcK g a q s ⟨d.toNat, p, 0, []⟩ none 0 0 W hW hs)
end Go.Proofs.YtikcgcgbcolndaaGreat.Neg

/- The events of NegotDeaf. Written by gen/neg_deaf.py. -/
namespace Go.Proofs.YtikcgcgbcolndaaGreat.Neg
open Go.RowKit Go.Proofs.YtikcgcgbcolndaaGreat.Oct Go.Proofs.YtikcgcgbcolndaaGreat.Row Go.Proofs.YtikcgcgbcolndaaGreat.Mem Go.Proofs.YtikcgcgbcolndaaGreat.Opt Go.Proofs.YtikcgcgbcolndaaGreat.Fsm
open Go.Proofs.YtikcgcgbcolndaaGreat.Aut (Au Aut Inv evA evE evX)
open Go.Proofs.YtikcgcgbcolndaaGreat.Pol (newP mayC)

theorem lok_new {cf : Pol.Conf} (m : UInt32) (h : mayC cf = true) : lcK.ok (newP cf m) := ⟨Pol.wish_may m h, h⟩
theorem tab0 : nE 0 0 = 0 ∧ nA 0 0 = 0 ∧ nN 0 0 = 2 := by decide +kernel
theorem shut_x (r mc mt : Nat) : evA (x0 r mc mt) 0 = 0 ∧ evE (x0 r mc mt) 0 = 0 ∧ evX (x0 r mc mt) 0 = ⟨r, mc, mt, 2, 0, 0⟩ := by
  obtain ⟨a, b, c⟩ := tab0
  refine ⟨b, a, ?_⟩
  show Aut.come (x0 r mc mt) 0 = _
  unfold Aut.come
  show (if nE 0 0 = 0 then Aut.fin (nN 0 0) (Aut.acts (nA 0 0) (x0 r mc mt)) else _) = _
  rw [if_pos a, b, c, Aut.acts_is]
  simp only [show has 0 16 = false by decide, show has 0 32 = false by decide, show has 0 64 = false by decide, show has 0 512 = false by decide]
  rfl
theorem shut_s (p : Pol.Po) (d : UInt32) : evS 0 d (newSd lcK 3 10 2 p) = (({ newSd lcK 3 10 2 p with x := ⟨3, 10, 2, 2, 0, 0⟩ } : Sd lcK), []) := by
  obtain ⟨a, b, c⟩ := shut_x 3 10 2
  unfold evS
  show perL _ (bitsTo (evA (x0 3 10 2) 0) 13) _ = _
  rw [a, bits0]
  have e : ({ ren 0 d (newSd lcK 3 10 2 p) with x := evX (newSd lcK 3 10 2 p).x 0 } : Sd lcK) = { newSd lcK 3 10 2 p with x := ⟨3, 10, 2, 2, 0, 0⟩ } := by
    rw [show evX (newSd lcK 3 10 2 p).x 0 = ⟨3, 10, 2, 2, 0, 0⟩ from c]
    rfl
  rw [e]
  rfl
def EvP (ev : Nat) (s s' : Sd lcK) (m : UInt32) : Prop := ∀ g a q w, SAt lcK w g a q s → Calls Tryz.prog 22 #[.pointer (some ⟨g, 0, none⟩), .int .u8 ev, .int .u32 m.toNat] w fun e w' =>
  ∃ R n rc T, e = .returned (.tuple #[.agg #[.slice R n rc, .int .u16 T, .int .u16 0, .bool false], .int .i64 0]) ∧ SAt lcK w' g a q s' ∧ Moves (My g a q) w w'
theorem evp_of {ev : Nat} {s : Sd lcK} {m : UInt32} (hok : Ok s) (h3 : ev ≤ 3) (he : evE s.x ev = 0) (h4 : has (evA s.x ev) 4096 = false) (s' : Sd lcK) (hs : (evS ev m s).1 = s') : EvP ev s s' m := fun g a q w h =>
  (event_ok lcK g a q s ev m w h hok h3 he h4).mono fun e w' ⟨R, rc, h1, _, h2, h3⟩ => ⟨R, _, rc, _, h1, by rw [← hs]; exact h2, h3⟩
theorem ev_o {cf : Pol.Conf} (m : UInt32) (hc : mayC cf = true) : EvP 2 (newSd lcK 3 10 2 (newP cf m)) ({ newSd lcK 3 10 2 (newP cf m) with x := x1 3 10 2 } : Sd lcK) m :=
  evp_of (new_ok' may3 (lok_new m hc)) (by decide) (open_x 3 10 2).2.1 (by rw [show (newSd lcK 3 10 2 (newP cf m)).x = x0 3 10 2 from rfl, (open_x 3 10 2).1]; decide) _ (congrArg Prod.fst (open_s lcK 3 10 2 (newP cf m) m))
theorem ev_c {cf : Pol.Conf} (m : UInt32) (hc : mayC cf = true) : EvP 0 (newSd lcK 3 10 2 (newP cf m)) ({ newSd lcK 3 10 2 (newP cf m) with x := ⟨3, 10, 2, 2, 0, 0⟩ } : Sd lcK) m :=
  evp_of (new_ok' may3 (lok_new m hc)) (by decide) (shut_x 3 10 2).2.1 (by rw [show (newSd lcK 3 10 2 (newP cf m)).x = x0 3 10 2 from rfl, (shut_x 3 10 2).1]; decide) _ (congrArg Prod.fst (shut_s (newP cf m) m))
theorem ev_u {cf : Pol.Conf} (m : UInt32) (hc : mayC cf = true) : EvP 0 ({ newSd lcK 3 10 2 (newP cf m) with x := x1 3 10 2 } : Sd lcK) (s6 lcK 3 10 2 9 3 1 (newP cf m)) m :=
  evp_of (new1_ok may3 (lok_new m hc)) (by decide) (up_x 3 10 2).2.1 (by rw [show ({ newSd lcK 3 10 2 (newP cf m) with x := x1 3 10 2 } : Sd lcK).x = x1 3 10 2 from rfl, (up_x 3 10 2).1]; decide) _ ((congrArg Prod.fst (up_s lcK 3 10 2 (newP cf m) m)).trans rfl)
theorem hears_c {cf : Pol.Conf} (m : UInt32) (hc : mayC cf = true) (p : Pk) (hd : p.d.size ≤ maxLen) : Hears ({ newSd lcK 3 10 2 (newP cf m) with x := ⟨3, 10, 2, 2, 0, 0⟩ } : Sd lcK) p m := by
  refine hears _ (.inl rfl) ?_ (fun h => by cases h) ⟨Nat.zero_le _, Nat.zero_le _⟩ p hd m
  have h1 := evX_inv (x0_inv may3) 0
  rw [(shut_x 3 10 2).2.2] at h1
  exact ⟨h1, lok_new m hc, (show 64 ≤ 1500 by decide), (show 1500 ≤ 65535 by decide), (show 0 < 256 by decide), (show 0 < 256 by decide)⟩
theorem hears_u {cf : Pol.Conf} (m : UInt32) (hc : mayC cf = true) (p : Pk) (hd : p.d.size ≤ maxLen) : Hears (s6 lcK 3 10 2 9 3 1 (newP cf m)) p m :=
  hears _ (.inr rfl) (s6_ok may3 (by decide) (by decide) (by decide) (by decide) (lok_new m hc)) (fun _ => rfl) ⟨Nat.zero_le _, Nat.zero_le _⟩ p hd m
/-- A conf and a packet in blocks. -/
theorem boxLP (w : World) (cf : Pol.Conf) (p : Pk) : ∃ W, (w.alloc (.cells #[Value.int .u16 cf.mru.toNat, .bool cf.ha, .int .u32 cf.accm.toNat, .int .u8 cf.auth.toNat, .int .u8 cf.takes.toNat, .int .u8 cf.can.toNat, .bool cf.mg, .bool cf.pfc, .bool cf.acfc, .int .i64 cf.mn] 25)).alloc (.cells #[.int .u8 p.c.toNat, .int .u8 p.i.toNat, .string p.d] 56) = W ∧
    Hid (Pol.CAt W w.heap.size cf ∧ Blk W (w.heap.size + 1) (pkV p) 56 ∧ Below w.heap.size w W ∧ W.heap.size = w.heap.size + 2) := by
  refine ⟨_, rfl, (Pol.cat_new w cf).alloc _, ?_, ((Below.refl w.heap.size w).alloc (Nat.le_refl _) _).alloc (by rw [World.size_alloc]; exact Nat.le_succ _) _, by rw [World.size_alloc, World.size_alloc]⟩
  have := blk_new (w.alloc (.cells #[Value.int .u16 cf.mru.toNat, .bool cf.ha, .int .u32 cf.accm.toNat, .int .u8 cf.auth.toNat, .int .u8 cf.takes.toNat, .int .u8 cf.can.toNat, .bool cf.mg, .bool cf.pfc, .bool cf.acfc, .int .i64 cf.mn] 25)) (pkV p) 56
  rw [World.size_alloc] at this
  exact this
/-- What the walk carries: the side, the packet's box. -/
structure Dy (w w' : World) (g a q : Nat) (s : Sd lcK) (p : Pk) : Prop where
  s : SAt lcK w' g a q s
  b : Below w.heap.size w w'
  my : ∀ k, My g a q k → w.heap.size + 2 ≤ k
  p : Blk w' (w.heap.size + 1) (pkV p) 56
theorem Dy.callee {w w' w'' : World} {g a q : Nat} {s : Sd lcK} {p : Pk} (h : Dy w w' g a q s p) (hb : Below w'.heap.size w' w'') : Dy w w'' g a q s p := ⟨h.s.callee hb, h.b.trans (hb.mono h.b.size), h.my, h.p.callee hb⟩
theorem Dy.go {w w' w'' : World} {g a q : Nat} {s s' : Sd lcK} {p : Pk} (h : Dy w w' g a q s p) (hs : SAt lcK w'' g a q s') (hm : Moves (My g a q) w' w'') : Dy w w'' g a q s' p :=
  ⟨hs, h.b.trans (hm.below h.b.size fun k hk => by have := h.my k hk; omega), h.my, h.p.moves hm (fun e => by have := h.my _ e; omega)⟩
end Go.Proofs.YtikcgcgbcolndaaGreat.Neg
