/- PROVED: 'halyardlaw15.IpcppolMeets' returns true for every configuration and request, and leaves them as they were. No condition. -/
import Derived.Test.YtbkcdpfelkbhaaaIppW
import Derived.Test.YtbkcdpfelkbhaaaIppX
import Derived.Test.YtbkcdpfelkbhaaaIppY
import Derived.Test.YtbkcdpfelkbhaaaQuietS
import Derived.Test.YtbkcdpfelkbhaaaIpcU
import Derived.Test.YtbkcdpfelkbhaaaLaw
import Derived.Test.YtbkcdpfelkbhaaaRows
import Derived.SizedLaws
import Derived.Deep.QuietTactic
import Derived.Deep.Quiet
import Derived.BigQuiet
set_option linter.unusedSimpArgs false
set_option linter.unusedVariables false
namespace Go.Proofs.Ytbkcdpfelkbhaaa.IpcppolMeets
open Go.ChangeShapes Go.WideShapes Go.ChangeAt Go.RowKit Go.Proofs.Ytbkcdpfelkbhaaa.Oct Go.Proofs.Ytbkcdpfelkbhaaa.Row Go.Proofs.Ytbkcdpfelkbhaaa.Mem Go.Proofs.Ytbkcdpfelkbhaaa.Opt Go.Proofs.Ytbkcdpfelkbhaaa.Ipc Go.Proofs.Ytbkcdpfelkbhaaa.Law Go.Proofs.Ytbkcdpfelkbhaaa.Ipp
theorem own : ownKnob Try.prog.godebug = none := by kernel_rfl
theorem laidOut : laidOutB Try.prog = true := by kernel_rfl
theorem newP_ok {c : Conf} (h : mayC c = true) : (newP c).naks = 0 ∧ 1 ≤ (newP c).c.mn ∧ (newP c).c = c ∧ c.mn ≤ 10 := by
  unfold mayC at h
  simp only [Bool.and_eq_true, decide_eq_true_eq] at h
  exact ⟨rfl, h.1, rfl, h.2⟩
/-- How far the bargain is. -/
def Lv (k : Nat) (p : Po) (m : List Opt) : Prop := (k = 0 ∧ p.naks = 0) ∨ (k = 1 ∧ refs (vs p m) = [] ∧ (sugs p m = [] ∨ p.naks = 0)) ∨ (k = 2 ∧ refs (vs p m) = [] ∧ sugs p m = [])
structure Ms (cf : Conf) (w wr : World) (g : Nat) (p : Po) (A : Option Addr) (n : Nat) (m : List Opt) (k : Nat) : Prop where
  hp : PAt wr g p
  ho : Opts wr wr.heap.size A n m
  hb : Below w.heap.size w wr
  hg : w.heap.size < g
  hc : CAt wr w.heap.size cf
  c1 : p.c = cf
  c2 : 1 ≤ p.c.mn
  n1 : p.naks ≤ k
  lv : Lv k p m
/-- Behind an answer that is no Ack. -/
theorem Ms.step {cf : Conf} {w wr w' w'' : World} {g k n n' : Nat} {p q : Po} {A A' : Option Addr} {m m' : List Opt} (h : Ms cf w wr g p A n m k) (hp : PAt w' g q) (hm : Moves (fun j => j = g) wr w') (hb : Below w'.heap.size w' w'') (ho : Opts w'' w''.heap.size A' n' m') (hq : q = jP p m) (hl : Lv (k + 1) q m') : Ms cf w w'' g q A' n' m' (k + 1) := by
  subst hq
  have h1 : Below w.heap.size w w' := h.hb.trans (hm.below h.hb.size (fun j e => by rw [e]; exact Nat.le_of_lt h.hg))
  obtain ⟨_, j2, _, j3⟩ := jP_w p m
  exact ⟨hp.callee hb, ho, h1.trans (hb.mono h1.size), h.hg, CAt.callee (Blk.moves h.hc hm (Nat.ne_of_lt h.hg)) hb, by rw [j2]; exact h.c1, by rw [j2]; exact h.c2, by have := h.n1; omega, hl⟩
theorem lv_rej {k : Nat} {p : Po} {m : List Opt} (h : Lv k p m) (hr : ¬ refs (vs p m) = []) : k = 0 ∧ Lv (k + 1) (jP p m) (mendA 4 (refs (vs p m)) m) := by
  rcases h with ⟨rfl, _⟩ | ⟨_, h, _⟩ | ⟨_, h, _⟩
  · refine ⟨rfl, .inr (.inl ⟨rfl, ?_, .inr ?_⟩)⟩
    · rw [vs_same (jP_w p m).2.1, mendA4]; exact mend_rej p m
    · rw [(rej_of (way_rej hr)).2.2]
  · exact absurd h hr
  · exact absurd h hr
theorem lv_nak {k : Nat} {p : Po} {m : List Opt} (h : Lv k p m) (hmn : 1 ≤ p.c.mn) (hr : refs (vs p m) = []) (hp : ¬ sugs p m = []) : k ≤ 1 ∧ (p.naks : Int) < p.c.mn ∧ Lv (k + 1) (jP p m) (mendA 3 (sugs p m) m) := by
  have key : refs (vs (jP p m) (mendA 3 (sugs p m) m)) = [] ∧ sugs (jP p m) (mendA 3 (sugs p m) m) = [] := by
    rw [vs_same (jP_w p m).2.1, sugs_same (jP_w p m).2.1, mendA_nak hr]
    exact mendA_clean hr
  rcases h with ⟨rfl, h⟩ | ⟨rfl, _, h⟩ | ⟨_, _, h⟩
  · exact ⟨by omega, by rw [h]; omega, .inr (.inl ⟨rfl, key.1, .inl key.2⟩)⟩
  · rcases h with h | h
    · exact absurd h hp
    · exact ⟨by omega, by rw [h]; omega, .inr (.inr ⟨rfl, key⟩)⟩
  · exact absurd h hp
set_option maxHeartbeats 16000000 in
set_option maxRecDepth 100000 in
theorem walk (cf : Conf) (A : Option Addr) (n c : Nat) (l : List Opt) (w : World) (hn : n ≤ maxLen) (hA : A = none → c = 0) (hl : Opts w w.heap.size A n l) :
    Calls Try.prog 5 #[.agg #[Value.int .u32 cf.addr.toNat, .int .u32 cf.peer.toNat, .int .u32 cf.dns1.toNat, .int .u32 cf.dns2.toNat, .bool cf.want, .int .i64 cf.mn], .slice A n c] w fun e w' => e = .returned (.bool true) ∧ Below w.heap.size w w' := by
  obtain ⟨i0, hi, hz0, hz1, hz2⟩ := info_parts Try.info48
  obtain ⟨W, hW, HW⟩ := boxC w cf
  obtain ⟨c0, c1, c2, c3, c4, c5⟩ := HW.out.1.all
  have HB := Lib.hid HW.out.2.1
  have HC := Lib.hid HW.out.1
  have HS := Lib.hid HW.out.2.2
  have HL := Lib.hid hl
  have HG := Lib.hid (long_row l A n c W ((hl.below HB.out).more HB.out.size) hn)
  clear hl HW
  go_enter Try.func5, Try.ntmps5
  go_wp2_with fail
  refine HG.out.mono ?_
  rintro e _ ⟨b, rfl, hb, rfl⟩
  cases b
  · obtain ⟨hn70, _⟩ := hb rfl
    clear hb HG hn
    cases hm : mayC cf
    · go_wp2_with fail
      refine (new_no cf W hm).mono ?_
      rintro e w1 ⟨rfl, hb1⟩
      have HB1 := Lib.hid (HB.out.trans (hb1.mono HB.out.size))
      clear hb1 hm
      go_wp2_with fail
      refine (alive_any _).mono ?_
      rintro e w2 ⟨rfl, hb2⟩
      have HB2 := Lib.hid (HB1.out.trans (hb2.mono HB1.out.size))
      clear hb2
      go_wp2
      go_ret
      exact ⟨rfl, HB2.out⟩
    · have HK := Lib.hid (newP_ok hm)
      go_wp2_with fail
      refine (new_ok cf W hm).mono ?_
      rintro e w1 ⟨g, rfl, hg, hp, hb1⟩
      have HB1 := Lib.hid (HB.out.trans (hb1.mono HB.out.size))
      have HP1 := Lib.hid hp
      have HC1 := Lib.hid (HC.out.callee hb1)
      have HGl : Hid (w.heap.size < g) := by have := HS.out; show _ < _; omega
      clear hb1 hp hg hm c0 c1 c2 c3 c4 c5 hW HB HC HS
      generalize newP cf = p at *
      have HO1 := Lib.hid ((HL.out.below HB1.out).more HB1.out.size)
      go_wp2_with (at_builtin; refine append_opts rfl _ _ 29 rfl w1.heap.size 48 i0 _ 24 Try.underlying29 hi hz0 hz1 hz2 rfl _ 0 [] rfl (World.ownsRow_nil _ _ _ _) _ A n c l hA rfl HO1.out (by unfold maxLen; omega) (by omega) (Nat.le_refl _) ?_; intro v1 w2 hown1 hgr1; have Hown1 := Lib.hid hown1; have Hgr1 := Lib.hid hgr1; clear hown1 hgr1)
      have H0 : Hid (∃ (A1 : Option Addr) (c1 : Nat), v1 = .slice A1 n c1 ∧ (A1 = none → c1 = 0) ∧ Ms cf w w2 g p A1 n l 0) := by
        have h1 := Hown1.out
        rw [List.nil_append, Nat.zero_add] at h1
        have hb2 : Below w1.heap.size w1 w2 := (Below.refl _ _).grown Hgr1.out (Nat.le_refl _) (fun q hq => by cases hq)
        obtain ⟨A1, c1, e1, hO⟩ := opts_own h1 HL.out.2.1
        refine ⟨A1, c1, e1, fun e => ?_, HP1.out.callee hb2, hO, HB1.out.trans (hb2.mono HB1.out.size), HGl.out, HC1.out.callee hb2, HK.out.2.2.1, HK.out.2.1, by rw [HK.out.1]; omega, .inl ⟨rfl, HK.out.1⟩⟩
        subst e
        subst e1
        rcases h1.2 with ⟨h2, _⟩ | ⟨g, cap, cur, h2, _⟩
        · cases h2; rfl
        · cases h2
      clear Hown1 Hgr1 HO1 HP1 HB1 HK HGl HC1
      go_loopw [7, 8] (fun v i wr => ∃ (k : Nat) (p' : Po) (m : List Opt) (A1 : Option Addr) (n1 q1 : Nat), k ≤ 2 ∧ i = .int .i64 k ∧ v = .slice A1 n1 q1 ∧ n1 ≤ 70 + 3 * k ∧ Hid (A1 = none → q1 = 0) ∧ Hid (Ms cf w wr g p' A1 n1 m k)) (fun _ i _ => 3 - (intOf i).toNat)
      case atStart =>
        obtain ⟨A1, q1, rfl, hA1, hM⟩ := H0.out
        exact ⟨0, p, l, A1, n, q1, by omega, rfl, rfl, by omega, hA1, hM⟩
      case round =>
        obtain ⟨k, p', m, A1, n1, q1, hk, rfl, rfl, hn1, HA1, HM⟩ := hrel
        have hk1 : (k : Int) < 3 := by omega
        have hk2 := decide_eq_true hk1
        have hnk : p'.naks ≤ 1000 := by have := HM.out.n1; omega
        clear H0
        by_cases hr : refs (vs p' m) = []
        · by_cases hp : sugs p' m = []
          · obtain ⟨hC, ha, hP⟩ := ack_of (way_ack hr hp)
            have HJ := Lib.hid (judge_at (m := n1) HM.out.hp HM.out.ho HA1.out (by omega) hnk hC ha HM.out.ho.1)
            have HPe : Hid ((jP p' m).peer = Ipc.gL m) := by show _ = _; rw [hP]
            have HPa : Hid (cf.peer ≠ 0 → (Ipc.gL m).ha = true ∧ (Ipc.gL m).addr = cf.peer) := fun h => by have := ack_peer hr hp (by rw [HM.out.c1]; exact h); rw [HM.out.c1] at this; exact this
            clear hC ha hP hr hp hnk
            go_wp2_with fail
            refine HJ.out.mono ?_
            rintro e w2 ⟨A2, q2, rfl, ho2, hp2, hm2⟩
            have HB2 := Lib.hid (HM.out.hb.trans (hm2.below HM.out.hb.size (fun k e => by rw [e]; exact Nat.le_of_lt HM.out.hg)))
            have HP2 := Lib.hid hp2
            have HC2 : Hid (CAt w2 w.heap.size cf) := Blk.moves HM.out.hc hm2 (Nat.ne_of_lt HM.out.hg)
            clear ho2 hp2 hm2 HJ HM HA1
            generalize jP p' m = p2 at *
            generalize Ipc.gL m = y at *
            have hpe := u32_eq0 cf.peer
            by_cases h0 : cf.peer = 0
            · have hpz : (cf.peer == 0) = true := by rw [h0]; rfl
              rw [hpz] at hpe
              clear h0 hpz HPa
              go_wp2_with fail
              have HPC : Hid (∀ q : HeldW (fun w' => PAt w' g p2 ∧ CAt w' w.heap.size cf ∧ Below w.heap.size w w'), Calls Try.prog 16 #[.pointer (some ⟨g, 0, none⟩)] q.w fun e w' => e = .returned (.agg #[Value.bool y.ha, .int .u32 y.addr.toNat, .bool y.h1, .int .u32 y.dns1.toNat, .bool y.h2, .int .u32 y.dns2.toNat]) ∧ (PAt w' g p2 ∧ CAt w' w.heap.size cf ∧ Below w.heap.size w w')) := fun q => by
                have h := peer_any g p2 q.w q.h.1
                rw [HPe.out] at h
                exact h.mono fun e w' ⟨he, hb⟩ => ⟨he, q.h.1.callee hb, q.h.2.1.callee hb, q.h.2.2.trans (hb.mono q.h.2.2.size)⟩
              have HAC : Hid (∀ q : HeldW (fun w' => PAt w' g p2 ∧ CAt w' w.heap.size cf ∧ Below w.heap.size w w'), Calls Try.prog 8 #[] q.w fun e w' => e = .returned (.bool true) ∧ (PAt w' g p2 ∧ CAt w' w.heap.size cf ∧ Below w.heap.size w w')) := fun q =>
                (alive_any q.w).mono fun e w' ⟨he, hb⟩ => ⟨he, q.h.1.callee hb, q.h.2.1.callee hb, q.h.2.2.trans (hb.mono q.h.2.2.size)⟩
              have hcf : ∀ q : HeldW (fun w' => PAt w' g p2 ∧ CAt w' w.heap.size cf ∧ Below w.heap.size w w'), q.w.cell? ⟨w.heap.size, 1, none⟩ = some (.int .u32 cf.peer.toNat) := fun q => q.h.2.1.all.2.1
              have hf2 : ∀ W : World, (Instr.field 35 (.agg #[Value.bool y.ha, .int .u32 y.addr.toNat, .bool y.h1, .int .u32 y.dns1.toNat, .bool y.h2, .int .u32 y.dns2.toNat]) 2).run Try.prog W = .ok (.bool y.h1) W := fun W => by kernel_rfl
              have hf3 : ∀ W : World, (Instr.field 35 (.agg #[Value.bool y.ha, .int .u32 y.addr.toNat, .bool y.h1, .int .u32 y.dns1.toNat, .bool y.h2, .int .u32 y.dns2.toNat]) 3).run Try.prog W = .ok (.int .u32 y.dns1.toNat) W := fun W => by kernel_rfl
              have hf4 : ∀ W : World, (Instr.field 35 (.agg #[Value.bool y.ha, .int .u32 y.addr.toNat, .bool y.h1, .int .u32 y.dns1.toNat, .bool y.h2, .int .u32 y.dns2.toNat]) 4).run Try.prog W = .ok (.bool y.h2) W := fun W => by kernel_rfl
              have hf5 : ∀ W : World, (Instr.field 35 (.agg #[Value.bool y.ha, .int .u32 y.addr.toNat, .bool y.h1, .int .u32 y.dns1.toNat, .bool y.h2, .int .u32 y.dns2.toNat]) 5).run Try.prog W = .ok (.int .u32 y.dns2.toNat) W := fun W => by kernel_rfl
              have hne : Nonempty (HeldW (fun w' => PAt w' g p2 ∧ CAt w' w.heap.size cf ∧ Below w.heap.size w w')) := ⟨⟨w2.drew, ⟨HP2.out.callee (Below.refl _ _).drew, HC2.out.callee (Below.refl _ _).drew, HB2.out.drew⟩⟩⟩
              refine wp_region_quiet_shut (fun w' => PAt w' g p2 ∧ CAt w' w.heap.size cf ∧ Below w.heap.size w w') (by kernel_rfl) (by kernel_rfl) ⟨HP2.out.callee (Below.refl _ _).drew, HC2.out.callee (Below.refl _ _).drew, HB2.out.drew⟩ (fun G hst hnil => ?_)
              repeat (
                refine hst.out _ _ _ (fun K hK => ?_)
                go_simp
                first
                  | (refine hK _ ?_; clear hK K)
                  | (apply Exists.intro
                     refine ⟨fun _ => ?_, hK _ ?_⟩
                     (first
                       | (go_at_call 16; exact held_of (HPC.out _))
                       | (go_at_call 8; exact held_of (HAC.out _)))
                     clear hK K))
              refine hnil.out _ (fun q => ?_)
              clear hnil hst
              go_wp2
              go_ret
              exact ⟨rfl, q.h.2.2⟩
            · have hpz : (cf.peer == 0) = false := beq_eq_false_iff_ne.2 h0
              rw [hpz] at hpe
              have hd : decide (y = ⟨true, cf.peer, y.h1, y.dns1, y.h2, y.dns2⟩) = true := by
                obtain ⟨h1, h2⟩ := HPa.out h0
                obtain ⟨y0, y1, y2, y3, y4, y5⟩ := y
                simp only at h1 h2
                subst h1 h2
                exact decide_eq_true rfl
              have hEq := fun w => ipc_eq hd w
              have hEl := fun w => ipc_eql hd w
              clear h0 hpz HPa hd
              go_wp2_with fail
              have HPC : Hid (∀ q : HeldW (fun w' => PAt w' g p2 ∧ CAt w' w.heap.size cf ∧ Below w.heap.size w w'), Calls Try.prog 16 #[.pointer (some ⟨g, 0, none⟩)] q.w fun e w' => e = .returned (.agg #[Value.bool y.ha, .int .u32 y.addr.toNat, .bool y.h1, .int .u32 y.dns1.toNat, .bool y.h2, .int .u32 y.dns2.toNat]) ∧ (PAt w' g p2 ∧ CAt w' w.heap.size cf ∧ Below w.heap.size w w')) := fun q => by
                have h := peer_any g p2 q.w q.h.1
                rw [HPe.out] at h
                exact h.mono fun e w' ⟨he, hb⟩ => ⟨he, q.h.1.callee hb, q.h.2.1.callee hb, q.h.2.2.trans (hb.mono q.h.2.2.size)⟩
              have HAC : Hid (∀ q : HeldW (fun w' => PAt w' g p2 ∧ CAt w' w.heap.size cf ∧ Below w.heap.size w w'), Calls Try.prog 8 #[] q.w fun e w' => e = .returned (.bool true) ∧ (PAt w' g p2 ∧ CAt w' w.heap.size cf ∧ Below w.heap.size w w')) := fun q =>
                (alive_any q.w).mono fun e w' ⟨he, hb⟩ => ⟨he, q.h.1.callee hb, q.h.2.1.callee hb, q.h.2.2.trans (hb.mono q.h.2.2.size)⟩
              have hcf : ∀ q : HeldW (fun w' => PAt w' g p2 ∧ CAt w' w.heap.size cf ∧ Below w.heap.size w w'), q.w.cell? ⟨w.heap.size, 1, none⟩ = some (.int .u32 cf.peer.toNat) := fun q => q.h.2.1.all.2.1
              have hf2 : ∀ W : World, (Instr.field 35 (.agg #[Value.bool y.ha, .int .u32 y.addr.toNat, .bool y.h1, .int .u32 y.dns1.toNat, .bool y.h2, .int .u32 y.dns2.toNat]) 2).run Try.prog W = .ok (.bool y.h1) W := fun W => by kernel_rfl
              have hf3 : ∀ W : World, (Instr.field 35 (.agg #[Value.bool y.ha, .int .u32 y.addr.toNat, .bool y.h1, .int .u32 y.dns1.toNat, .bool y.h2, .int .u32 y.dns2.toNat]) 3).run Try.prog W = .ok (.int .u32 y.dns1.toNat) W := fun W => by kernel_rfl
              have hf4 : ∀ W : World, (Instr.field 35 (.agg #[Value.bool y.ha, .int .u32 y.addr.toNat, .bool y.h1, .int .u32 y.dns1.toNat, .bool y.h2, .int .u32 y.dns2.toNat]) 4).run Try.prog W = .ok (.bool y.h2) W := fun W => by kernel_rfl
              have hf5 : ∀ W : World, (Instr.field 35 (.agg #[Value.bool y.ha, .int .u32 y.addr.toNat, .bool y.h1, .int .u32 y.dns1.toNat, .bool y.h2, .int .u32 y.dns2.toNat]) 5).run Try.prog W = .ok (.int .u32 y.dns2.toNat) W := fun W => by kernel_rfl
              have hne : Nonempty (HeldW (fun w' => PAt w' g p2 ∧ CAt w' w.heap.size cf ∧ Below w.heap.size w w')) := ⟨⟨w2.drew, ⟨HP2.out.callee (Below.refl _ _).drew, HC2.out.callee (Below.refl _ _).drew, HB2.out.drew⟩⟩⟩
              refine wp_region_quiet_shut (fun w' => PAt w' g p2 ∧ CAt w' w.heap.size cf ∧ Below w.heap.size w w') (by kernel_rfl) (by kernel_rfl) ⟨HP2.out.callee (Below.refl _ _).drew, HC2.out.callee (Below.refl _ _).drew, HB2.out.drew⟩ (fun G hst hnil => ?_)
              repeat (
                refine hst.out _ _ _ (fun K hK => ?_)
                go_simp
                first
                  | (refine hK _ ?_; clear hK K)
                  | (apply Exists.intro
                     refine ⟨fun _ => ?_, hK _ ?_⟩
                     (first
                       | (go_at_call 16; exact held_of (HPC.out _))
                       | (go_at_call 8; exact held_of (HAC.out _)))
                     clear hK K))
              refine hnil.out _ (fun q => ?_)
              clear hnil hst
              go_wp2
              go_ret
              exact ⟨rfl, q.h.2.2⟩
          · obtain ⟨hk1', hx, hlv⟩ := lv_nak HM.out.lv HM.out.c2 hr hp
            obtain ⟨hC, ha, _⟩ := nak_of (way_nak hr hp hx)
            have HJ := Lib.hid (judge_at (m := (sugs p' m).length) HM.out.hp HM.out.ho HA1.out (by omega) hnk hC ha rfl)
            have HLv := Lib.hid hlv
            have hml : (mendA 3 (sugs p' m) m).length ≤ n1 + 3 := by rw [mendA_nak hr, List.length_append, List.length_map, HM.out.ho.1]; have := miss_len p' m; omega
            have hil : (sugs p' m).length ≤ n1 + 3 := by
              unfold sugs
              rw [List.length_append, (clean_vs hr).2, List.length_map, ← HM.out.ho.1]
              have := List.length_filter_le (other p') m
              have := miss_len p' m
              omega
            have hk3 : ((k : Int) == 2) = false := by rw [beq_eq_false_iff_ne]; omega
            clear hC ha hlv hr hp hx hnk
            go_wp2_with fail
            refine HJ.out.mono ?_
            rintro e w2 ⟨A2, q2, rfl, ho2, hp2, hm2⟩
            have HO2 : Hid (Opts w2 w2.heap.size A1 n1 m) := (opts_past HM.out.ho HM.out.hp (pv_no _) hm2 (Nat.le_refl _)).more hm2.size
            have HX2 := Lib.hid ho2
            have HP2 := Lib.hid hp2
            have HM2 := Lib.hid hm2
            clear ho2 hp2 hm2 HJ
            go_wp2_with fail
            refine (mended3 m _ A1 A2 n1 _ q1 q2 w2 HO2.out HX2.out (by omega) (by omega)).mono ?_
            rintro e w3 ⟨A3, q3, rfl, hO3, hA3, hb3⟩
            have HN := Lib.hid (HM.out.step HP2.out HM2.out hb3 hO3 rfl HLv.out)
            have HA3 := Lib.hid hA3
            clear hO3 hA3 hb3 HO2 HX2 HP2 HM2 HM HLv
            go_wp2
            go_roundw
            case rel => exact ⟨k + 1, _, _, A3, _, q3, by omega, by go_num, rfl, by omega, HA3, HN⟩
            case measure => simp [intOf]; omega
        · obtain ⟨hk0, hlv⟩ := lv_rej HM.out.lv hr
          subst hk0
          obtain ⟨hC, ha, _⟩ := rej_of (way_rej hr)
          have HJ := Lib.hid (judge_at (m := (refs (vs p' m)).length) HM.out.hp HM.out.ho HA1.out (by omega) hnk hC ha rfl)
          have HLv := Lib.hid hlv
          have hml : (mendA 4 (refs (vs p' m)) m).length ≤ n1 := by rw [mendA4, ← HM.out.ho.1]; exact (mend_sub _ _).length_le
          have hil : (refs (vs p' m)).length ≤ n1 := by rw [← HM.out.ho.1]; exact (refs_sub p' m).length_le
          clear hC ha hlv hr hnk
          go_wp2_with fail
          refine HJ.out.mono ?_
          rintro e w2 ⟨A2, q2, rfl, ho2, hp2, hm2⟩
          have HO2 : Hid (Opts w2 w2.heap.size A1 n1 m) := (opts_past HM.out.ho HM.out.hp (pv_no _) hm2 (Nat.le_refl _)).more hm2.size
          have HX2 := Lib.hid ho2
          have HP2 := Lib.hid hp2
          have HM2 := Lib.hid hm2
          clear ho2 hp2 hm2 HJ
          go_wp2_with fail
          refine (mended4 m _ A1 A2 n1 _ q1 q2 w2 HO2.out HX2.out (by omega) (by unfold maxLen; omega)).mono ?_
          rintro e w3 ⟨A3, q3, rfl, hO3, hA3, hb3⟩
          have HN := Lib.hid (HM.out.step HP2.out HM2.out hb3 hO3 rfl HLv.out)
          have HA3 := Lib.hid hA3
          clear hO3 hA3 hb3 HO2 HX2 HP2 HM2 HM HLv
          go_wp2
          go_roundw
          case rel => exact ⟨1, _, _, A3, _, q3, by omega, by go_num, rfl, by omega, HA3, HN⟩
          case measure => simp [intOf]
  · clear hb HG hn
    go_wp2_with fail
    refine (alive_any _).mono ?_
    rintro e w2 ⟨rfl, hb2⟩
    have HB2 := Lib.hid (HB.out.trans (hb2.mono HB.out.size))
    clear hb2
    go_wp2
    go_ret
    exact ⟨rfl, HB2.out⟩

set_option maxRecDepth 100000 in
theorem lifted (os : Os) (started : os.Started) (H : Type) (enc : TypeId × Value → H) :
    ReturnsInHanded {} Try.checked os 5 .any (Rows.ipcppolMeetsSpec.pre6 enc Try.prog Try.f5 Rows.ipcppolMeetsRow.domain false) (Rows.ipcppolMeetsSpec.post enc Try.prog Try.f5 false true false false) := by
  refine returnsInHanded_of_change_sized (C := Try.checked) own started (by kernel_rfl) Try.func5
    (ChangeSpec.witness6 (enc := enc) (C := Try.checked) false ⟨#[], #[.agg #[.int .u32 0, .int .u32 0, .int .u32 0, .int .u32 0, .bool false, .int .i64 0], .slice none 0 0], []⟩ 8 (by kernel_rfl) (by kernel_rfl) (by kernel_rfl) (by kernel_rfl)) ?_
  intro W base args ds gs before hval0 hW hcnd hsz0 _
  have hsz : (DataW.weightsEach Try.prog (Try.f5.params.toList ++ Rows.ipcppolMeetsSpec.plain.varTypes Try.prog) (ds ++ gs)).all (· ≤ reachBytes) = true := hsz0
  have hval : ∀ (j : Nat) t v, Try.f5.params[j]? = some t → args[j]? = some v → Value.okWide Try.prog W .any base t v := hval0
  have hW' := hW
  obtain ⟨p, q, hA0, hV, rfl, hfz, hnd⟩ := hW
  have hlt := hW'.lt
  have hA : DataW.TrodAll enc Try.prog W 0 (fun _ => true) true Try.f5.params.toList args.toList ds p := hA0
  rw [Try.params5] at hA hval hsz
  obtain ⟨v0, vs0, d0, ds0, p0, q0, hargs, rfl, rfl, h0, r0⟩ := trodAll_cons hA
  obtain ⟨v1, vs1, d1, ds1, p1, q1, rfl, rfl, rfl, h1, r1⟩ := trodAll_cons r0
  obtain ⟨rfl, rfl, rfl⟩ := trodAll_nil r1
  obtain rfl : args = #[v0, v1] := by cases args; simp_all
  obtain ⟨rfl, rfl⟩ := trodVars_none hV
  obtain ⟨a0, rfl⟩ := conf_of Try.underlying24 (by kernel_rfl) (by kernel_rfl) Try.underlying22 Try.underlying22 Try.underlying22 Try.underlying22 Try.underlying4 Try.underlying3 (hval 0 24 v0 rfl rfl) h0
  obtain ⟨A1, n1, c1, rfl, m1, hA1, l1, hO1⟩ := opts_of Try.underlying29 Try.underlying48 (by kernel_rfl) (by kernel_rfl) Try.underlying5 Try.underlying9 (hval 1 29 v1 rfl rfl) h1 (fun n hn => of_decide_eq_true (List.all_eq_true.1 hsz n (DataW.weights_mem_each (j := 1) (t := 29) rfl rfl n hn)))
  clear hA0 hval0 hsz0
  exact (walk a0 A1 n1 c1 l1 W m1 hA1 hO1).mono fun e W' ⟨he, hb⟩ => ⟨_, he, law_post (t := 4) laidOut (by kernel_rfl) rfl rfl Try.underlying4 ⟨rfl, rfl, rfl⟩ hW' hb⟩

theorem over : Rows.ipcppolMeetsRow.holds Try.pinned (OpenSpec.ofChange Rows.ipcppolMeetsSpec) :=
  OpenClaim.holds_of_wide 5 Try.f5 rfl rfl rfl rfl rfl rfl rfl ⟨rfl, rfl, rfl, rfl, rfl⟩ rfl rfl rfl rfl rfl (by kernel_rfl) Try.func5 (by kernel_rfl)
    (of_decide_eq_true (by kernel_rfl)) (by unfold Func.isWrapper; first | (rw [if_pos (by decide +kernel)]; kernel_rfl) | (rw [if_neg (by decide +kernel)]; exact ⟨rfl, rfl⟩))
    (fun os started H enc _ => lifted os started H enc)

theorem proved : Rows.IpcppolMeetsSaid :=
  over
#print axioms proved
end Go.Proofs.Ytbkcdpfelkbhaaa.IpcppolMeets
