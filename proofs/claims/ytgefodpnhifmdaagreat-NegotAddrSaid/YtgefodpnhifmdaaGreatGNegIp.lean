/- Put together: NegIp, NegH, NegJ, NegAp. -/
import Derived.Test.YtgefodpnhifmdaaGreatGNegA
import Derived.Test.YtgefodpnhifmdaaGreatGIppN

/- The kind of IPCP's policies. -/
namespace Go.Proofs.YtgefodpnhifmdaaGreat.Neg
open Go.RowKit Go.Proofs.YtgefodpnhifmdaaGreat.Oct Go.Proofs.YtgefodpnhifmdaaGreat.Row Go.Proofs.YtgefodpnhifmdaaGreat.Mem Go.Proofs.YtgefodpnhifmdaaGreat.Opt

theorem wt_small : ∀ (l : List Opt), (∀ o ∈ l, o.2.size ≤ 4) → wt l ≤ 6 * l.length
  | [], _ => Nat.le_refl _
  | o :: l, h => by
    have h1 := wt_small l (fun p hp => h p (List.mem_cons_of_mem _ hp))
    have h2 := h o (List.mem_cons_self ..)
    simp only [wt, List.length_cons]
    omega
theorem put_len (x : Ipc.Ipc) : (Ipc.put x).length ≤ 3 := Ipc.gat_three x ▸ Ipc.gat_len x 3
theorem put_four (x : Ipc.Ipc) : ∀ o ∈ Ipc.put x, o.2.size ≤ 4 := fun o ho => by
  have h := Ipc.put_good x o ho
  simp only [Ipc.good, Bool.and_eq_true, decide_eq_true_eq] at h
  omega
theorem pe_put (x : Ipc.Ipc) : pE (Ipc.put x) = 0 := by
  refine pE_zero.2 ⟨by have := put_len x; omega, ?_, by have := wt_small _ (put_four x); have := put_len x; omega⟩
  unfold big
  rw [List.any_eq_false]
  intro o ho
  have := put_four x o ho
  simp only [decide_eq_true_eq]
  omega
/-- A policy's word in a variable's block. -/
theorem boxI (w : World) (q : Nat) : ∃ W, w.alloc (.cells #[.pointer (some ⟨q, 0, none⟩)] 57) = W ∧ Hid (Blk W w.heap.size [.pointer (some ⟨q, 0, none⟩)] 57 ∧ Below w.heap.size w W) :=
  ⟨_, rfl, blk_new w [.pointer (some ⟨q, 0, none⟩)] _, (Below.refl w.heap.size w).alloc (Nat.le_refl _) _⟩
set_option maxHeartbeats 2000000 in
set_option maxRecDepth 100000 in
theorem ip_renew (q : Nat) (p : Ipp.Po) (w : World) (d : UInt32) (h : Ipp.PAt w q p) : Calls Tryz.prog 155 #[.agg #[ptr q], .int .u32 d.toNat] w fun e w' => e = .returned (.tuple #[]) ∧ Ipp.PAt w' q (Ipp.newP p.c) ∧ Moves (fun k => k = q) w w' := by
  obtain ⟨W, hW, HW⟩ := boxI w q
  have H := Lib.hid (h.callee HW.out.2)
  have M : Hid (Moves (fun k => k = q) w W) := Moves.of_below HW.out.2
  have HR := Lib.hid (Ipp.reset_any q p W H.out)
  have c0 : W.cell? ⟨w.heap.size, 0, none⟩ = some (.pointer (some ⟨q, 0, none⟩)) := HW.out.1.at_ 0
  clear h HW
  unfold ptr
  go_enter Tryz.func155, Tryz.ntmps155
  go_wp2_with fail
  refine HR.out.mono ?_
  rintro e w1 ⟨rfl, hp, hm⟩
  have HP := Lib.hid hp
  have M1 := Lib.hid (M.out.trans hm fun _ _ x => x)
  clear hp hm
  go_wp2
  go_end0
  exact ⟨rfl, HP.out, M1.out⟩
set_option maxRecDepth 100000 in
def ipK : Kd where
  α := Ipp.Po
  proto := 32801
  ty := 57
  At := Ipp.PAt
  lt := Ipp.PAt.lt
  moves := fun h hm hs => Ipp.PAt.moves h hm hs
  ok := fun p => Ipc.may p.w = true
  req := Ipp.req
  fRequest := 110
  eRequest := enters_of Tryz.func110 (by kernel_rfl) rfl
  mRequest := fun k hk q w => by subst hk; kernel_rfl
  cRequest := fun q p w h hok => (Ipp.request_any q p w h hok).mono fun e w' ⟨A, c, he, hO, _, hb⟩ => ⟨A, c, he, hO, hb⟩
  magic := fun _ => 0
  renew := fun p _ => Ipp.newP p.c
  fRenew := 155
  eRenew := enters_of Tryz.func155 (by kernel_rfl) rfl
  mRenew := fun k hk q w => by subst hk; kernel_rfl
  cRenew := fun q p w d h _ => ip_renew q p w d h
  okRenew := fun p d _ => by
    show Ipc.may (Ipp.newP p.c).w = true
    simp [Ipc.may, Ipp.newP, Ipp.wish]
  rq := fun p _ => ⟨pe_put p.w, by have h := put_len p.w; show (Ipc.put p.w).length ≤ _; unfold maxLen; omega⟩
end Go.Proofs.YtgefodpnhifmdaaGreat.Neg

/- Sides are made. -/
namespace Go.Proofs.YtgefodpnhifmdaaGreat.Neg
open Go.RowKit Go.Proofs.YtgefodpnhifmdaaGreat.Oct Go.Proofs.YtgefodpnhifmdaaGreat.Row Go.Proofs.YtgefodpnhifmdaaGreat.Mem Go.Proofs.YtgefodpnhifmdaaGreat.Opt Go.Proofs.YtgefodpnhifmdaaGreat.Fsm
open Go.Proofs.YtgefodpnhifmdaaGreat.Aut (Au Aut Inv)

def newSd (K : Kd) (r mc mt : Nat) (p : K.α) : Sd K := ⟨⟨r, mc, mt, 0, 0, 0⟩, p, 1500, 0, false, 0⟩
def MadeQ (K : Kd) (q : Nat) (s : Sd K) (w : World) (e : Ending) (w' : World) : Prop :=
  ∃ g a, e = .returned (.tuple #[.pointer (some ⟨g, 0, none⟩), .int .i64 0]) ∧ w.heap.size ≤ g ∧ w.heap.size ≤ a ∧ SAt K w' g a q s ∧ Below w.heap.size w w'
theorem boxA (w : World) (a b d : Int) : ∃ W, w.alloc (.cells #[.int .i64 a, .int .i64 b, .int .i64 d] 30) = W ∧ Hid (Blk W w.heap.size [.int .i64 a, .int .i64 b, .int .i64 d] 30 ∧ Below w.heap.size w W) :=
  ⟨_, rfl, blk_new w [.int .i64 a, .int .i64 b, .int .i64 d] _, (Below.refl w.heap.size w).alloc (Nat.le_refl _) _⟩
set_option maxHeartbeats 2000000 in
set_option maxRecDepth 100000 in
theorem made_ok (K : Kd) (q r mc mt : Nat) (p : K.α) (w : World) (hp : K.At w q p) (h : Aut.may r mc mt = true) :
    Calls Tryz.prog 16 #[.agg #[.int .i64 r, .int .i64 mc, .int .i64 mt], .int .u16 K.proto, .iface K.ty (.agg #[.pointer (some ⟨q, 0, none⟩)])] w (MadeQ K q (newSd K r mc mt p) w) := by
  obtain ⟨W, hW, HW⟩ := boxA w r mc mt
  have HB := Lib.hid HW.out.2
  have HP := Lib.hid (K.callee hp HW.out.2)
  have HN := Lib.hid (Aut.new_ok r mc mt W h)
  have c0 : W.cell? ⟨w.heap.size, 0, none⟩ = some (.int .i64 r) := HW.out.1.at_ 0
  have c1 : W.cell? ⟨w.heap.size, 1, none⟩ = some (.int .i64 mc) := HW.out.1.at_ 1
  have c2 : W.cell? ⟨w.heap.size, 2, none⟩ = some (.int .i64 mt) := HW.out.1.at_ 2
  clear hp h HW
  go_enter Tryz.func16, Tryz.ntmps16
  go_wp2_with fail
  refine HN.out.mono ?_
  rintro e w1 ⟨a, rfl, hga, hau, hb1⟩
  have HA := Lib.hid hau
  have HP1 := Lib.hid (K.callee HP.out hb1)
  have HB1 := Lib.hid (HB.out.trans (hb1.mono HB.out.size))
  have hwa : Hid (w.heap.size ≤ a) := Nat.le_trans HB.out.size hga
  have hqa : Hid (a ≠ q) := by have := K.lt HP.out; show a ≠ q; omega
  clear hga hau hb1 hW c0 c1 c2
  obtain ⟨V, hV⟩ : ∃ V, w1.alloc (.cells #[.pointer (some ⟨a, 0, none⟩), .int .u16 K.proto, .iface K.ty (.agg #[.pointer (some ⟨q, 0, none⟩)]), .int .i64 1500, .int .u8 0, .bool false, .int .u8 0] 69) = V := ⟨_, rfl⟩
  have HS : Hid (SAt K V w1.heap.size a q (newSd K r mc mt p) ∧ Below w.heap.size w V) := by
    rw [← hV]
    have hb := (Below.refl w1.heap.size w1).alloc (Nat.le_refl _) (.cells #[.pointer (some ⟨a, 0, none⟩), .int .u16 K.proto, .iface K.ty (.agg #[.pointer (some ⟨q, 0, none⟩)]), .int .i64 1500, .int .u8 0, .bool false, .int .u8 0] 69)
    exact ⟨⟨blk_new w1 (sv K a q (newSd K r mc mt p)) _, HA.out.callee hb, K.callee HP1.out hb, Nat.ne_of_lt HA.out.lt, Nat.ne_of_lt (K.lt HP1.out), hqa.out⟩, HB1.out.trans (hb.mono HB1.out.size)⟩
  have hw1 : Hid (w.heap.size ≤ w1.heap.size) := HB1.out.size
  clear HA HP1 HB1
  go_wp2
  go_ret2
  exact ⟨w1.heap.size, a, rfl, hw1.out, hwa.out, HS.out.1, HS.out.2⟩
set_option maxHeartbeats 2000000 in
set_option maxRecDepth 100000 in
theorem made_no (K : Kd) (v : Value) (a b d : Int) (w : World) (h : Aut.may a b d = false) :
    Calls Tryz.prog 16 #[.agg #[.int .i64 a, .int .i64 b, .int .i64 d], .int .u16 K.proto, v] w fun e w' => e = .returned (.tuple #[.pointer none, .int .i64 2]) ∧ Below w.heap.size w w' := by
  obtain ⟨W, hW, HW⟩ := boxA w a b d
  have HB := Lib.hid HW.out.2
  have HN := Lib.hid (Aut.new_no a b d W h)
  have c0 : W.cell? ⟨w.heap.size, 0, none⟩ = some (.int .i64 a) := HW.out.1.at_ 0
  have c1 : W.cell? ⟨w.heap.size, 1, none⟩ = some (.int .i64 b) := HW.out.1.at_ 1
  have c2 : W.cell? ⟨w.heap.size, 2, none⟩ = some (.int .i64 d) := HW.out.1.at_ 2
  clear h HW
  go_enter Tryz.func16, Tryz.ntmps16
  go_wp2_with fail
  refine HN.out.mono ?_
  rintro e w1 ⟨rfl, hb1⟩
  have HB1 := Lib.hid (HB.out.trans (hb1.mono HB.out.size))
  clear hb1 hW c0 c1 c2
  go_wp2
  go_ret2
  exact ⟨rfl, HB1.out⟩

/-! ### IPCP -/
theorem boxAC (w : World) (a b d : Int) (c : Ipp.Conf) : ∃ W, (w.alloc (.cells #[.int .i64 a, .int .i64 b, .int .i64 d] 30)).alloc (.cells #[Value.int .u32 c.addr.toNat, .int .u32 c.peer.toNat, .int .u32 c.dns1.toNat, .int .u32 c.dns2.toNat, .bool c.want, .int .i64 c.mn] 33) = W ∧
    Hid (Blk W w.heap.size [.int .i64 a, .int .i64 b, .int .i64 d] 30 ∧ Ipp.CAt W (w.heap.size + 1) c ∧ Below w.heap.size w W) := by
  refine ⟨_, rfl, (blk_new w [.int .i64 a, .int .i64 b, .int .i64 d] _).alloc _, ?_, ((Below.refl w.heap.size w).alloc (Nat.le_refl _) _).alloc (by rw [World.size_alloc]; exact Nat.le_succ _) _⟩
  have := Ipp.cat_new (w.alloc (.cells #[.int .i64 a, .int .i64 b, .int .i64 d] 30)) c
  rw [World.size_alloc] at this
  exact this
def NewQ (K : Kd) (s : Sd K) (w : World) (e : Ending) (w' : World) : Prop :=
  ∃ g a q, e = .returned (.tuple #[.pointer (some ⟨g, 0, none⟩), .int .i64 0]) ∧ w.heap.size ≤ g ∧ w.heap.size ≤ a ∧ w.heap.size ≤ q ∧ SAt K w' g a q s ∧ Below w.heap.size w w'
set_option maxHeartbeats 2000000 in
set_option maxRecDepth 100000 in
theorem ipcp_ok (r mc mt : Nat) (c : Ipp.Conf) (w : World) (h : Aut.may r mc mt = true) (hc : Ipp.mayC c = true) :
    Calls Tryz.prog 5 #[.agg #[.int .i64 r, .int .i64 mc, .int .i64 mt], .agg #[Value.int .u32 c.addr.toNat, .int .u32 c.peer.toNat, .int .u32 c.dns1.toNat, .int .u32 c.dns2.toNat, .bool c.want, .int .i64 c.mn]] w (NewQ ipK (newSd ipK r mc mt (Ipp.newP c)) w) := by
  obtain ⟨W, hW, HW⟩ := boxAC w r mc mt c
  have HB := Lib.hid HW.out.2.2
  have HA := Lib.hid HW.out.1
  have HN := Lib.hid (Ipp.new_ok c W hc)
  obtain ⟨c0, c1, c2, c3, c4, c5⟩ := HW.out.2.1.all
  have HM : Hid (∀ q w, Ipp.PAt w q (Ipp.newP c) → Calls Tryz.prog 16 #[.agg #[.int .i64 r, .int .i64 mc, .int .i64 mt], .int .u16 32801, .iface 57 (.agg #[.pointer (some ⟨q, 0, none⟩)])] w (MadeQ ipK q (newSd ipK r mc mt (Ipp.newP c)) w)) := fun q w hp => made_ok ipK q r mc mt (Ipp.newP c) w hp h
  clear h hc HW
  go_enter Tryz.func5, Tryz.ntmps5
  go_wp2_with fail
  refine HN.out.mono ?_
  rintro e w1 ⟨q, rfl, hgq, hp, hb1⟩
  have HP := Lib.hid hp
  have HB1 := Lib.hid (HB.out.trans (hb1.mono HB.out.size))
  have hwq : Hid (w.heap.size ≤ q) := Nat.le_trans HB.out.size hgq
  have HA1 := Lib.hid (HA.out.callee hb1)
  clear hgq hp hb1 hW c0 c1 c2 c3 c4 c5 HA
  have c0 : w1.cell? ⟨w.heap.size, 0, none⟩ = some (.int .i64 r) := HA1.out.at_ 0
  have c1 : w1.cell? ⟨w.heap.size, 1, none⟩ = some (.int .i64 mc) := HA1.out.at_ 1
  have c2 : w1.cell? ⟨w.heap.size, 2, none⟩ = some (.int .i64 mt) := HA1.out.at_ 2
  go_wp2_with fail
  refine (HM.out _ _ HP.out).mono ?_
  rintro e w2 ⟨g, a, rfl, hg, ha, hs, hb2⟩
  have HS := Lib.hid hs
  have HB2 := Lib.hid (HB1.out.trans (hb2.mono HB1.out.size))
  have hw2 : Hid (w.heap.size ≤ g ∧ w.heap.size ≤ a) := ⟨Nat.le_trans HB1.out.size hg, Nat.le_trans HB1.out.size ha⟩
  clear hg ha hs hb2
  go_wp2
  go_ret2
  exact ⟨g, a, q, rfl, hw2.out.1, hw2.out.2, hwq.out, HS.out, HB2.out⟩
def NoQ (w : World) (e : Ending) (w' : World) : Prop := e = .returned (.tuple #[.pointer none, .int .i64 2]) ∧ Below w.heap.size w w'
set_option maxHeartbeats 2000000 in
set_option maxRecDepth 100000 in
theorem ipcp_no (x y z : Int) (c : Ipp.Conf) (w : World) (h : (Aut.may x y z && Ipp.mayC c) = false) :
    Calls Tryz.prog 5 #[.agg #[.int .i64 x, .int .i64 y, .int .i64 z], .agg #[Value.int .u32 c.addr.toNat, .int .u32 c.peer.toNat, .int .u32 c.dns1.toNat, .int .u32 c.dns2.toNat, .bool c.want, .int .i64 c.mn]] w (NoQ w) := by
  obtain ⟨W, hW, HW⟩ := boxAC w x y z c
  have HB := Lib.hid HW.out.2.2
  have HA := Lib.hid HW.out.1
  obtain ⟨c0, c1, c2, c3, c4, c5⟩ := HW.out.2.1.all
  cases hc : Ipp.mayC c
  · have HN := Lib.hid (Ipp.new_no c W hc)
    clear h hc HW HA
    go_enter Tryz.func5, Tryz.ntmps5
    go_wp2_with fail
    refine HN.out.mono ?_
    rintro e w1 ⟨rfl, hb1⟩
    have HB1 := Lib.hid (HB.out.trans (hb1.mono HB.out.size))
    clear hb1 hW c0 c1 c2 c3 c4 c5
    go_wp2
    go_ret2
    exact ⟨rfl, HB1.out⟩
  · have h' : Aut.may x y z = false := by rw [hc, Bool.and_true] at h; exact h
    have HN := Lib.hid (Ipp.new_ok c W hc)
    have HM : Hid (∀ v w, Calls Tryz.prog 16 #[.agg #[.int .i64 x, .int .i64 y, .int .i64 z], .int .u16 32801, v] w fun e w' => e = .returned (.tuple #[.pointer none, .int .i64 2]) ∧ Below w.heap.size w w') := fun v w => made_no ipK v x y z w h'
    clear h h' hc HW
    go_enter Tryz.func5, Tryz.ntmps5
    go_wp2_with fail
    refine HN.out.mono ?_
    rintro e w1 ⟨q, rfl, hgq, hp, hb1⟩
    have HB1 := Lib.hid (HB.out.trans (hb1.mono HB.out.size))
    have HA1 := Lib.hid (HA.out.callee hb1)
    clear hgq hp hb1 hW c0 c1 c2 c3 c4 c5 HA
    have c0 : w1.cell? ⟨w.heap.size, 0, none⟩ = some (.int .i64 x) := HA1.out.at_ 0
    have c1 : w1.cell? ⟨w.heap.size, 1, none⟩ = some (.int .i64 y) := HA1.out.at_ 1
    have c2 : w1.cell? ⟨w.heap.size, 2, none⟩ = some (.int .i64 z) := HA1.out.at_ 2
    go_wp2_with fail
    refine (HM.out _ _).mono ?_
    rintro e w2 ⟨rfl, hb2⟩
    have HB2 := Lib.hid (HB1.out.trans (hb2.mono HB1.out.size))
    clear hb2
    go_wp2
    go_ret2
    exact ⟨rfl, HB2.out⟩
end Go.Proofs.YtgefodpnhifmdaaGreat.Neg

/- A side of IPCP that is opened, and up, to which nothing comes: numbers. -/
namespace Go.Proofs.YtgefodpnhifmdaaGreat.Neg
open Go.RowKit Go.Proofs.YtgefodpnhifmdaaGreat.Oct Go.Proofs.YtgefodpnhifmdaaGreat.Row Go.Proofs.YtgefodpnhifmdaaGreat.Mem Go.Proofs.YtgefodpnhifmdaaGreat.Opt Go.Proofs.YtgefodpnhifmdaaGreat.Fsm
open Go.Proofs.YtgefodpnhifmdaaGreat.Aut (Au Aut Inv evA evE evX tk tkS tev)

/-- The automaton after so many events. -/
def x0 (r mc mt : Nat) : Au := ⟨r, mc, mt, 0, 0, 0⟩
def x1 (r mc mt : Nat) : Au := ⟨r, mc, mt, 1, 0, 0⟩
def x6 (r mc mt c l : Nat) : Au := ⟨r, mc, mt, 6, c, l⟩
theorem tab1 : nE 0 2 = 0 ∧ nA 0 2 = 4 ∧ nN 0 2 = 1 ∧ nE 1 0 = 0 ∧ nA 1 0 = 80 ∧ nN 1 0 = 6 := by decide +kernel
theorem tab2 : nE 6 4 = 0 ∧ nA 6 4 = 64 ∧ nN 6 4 = 6 ∧ nE 6 5 = 0 ∧ nA 6 5 = 8 ∧ nN 6 5 = 3 := by decide +kernel
theorem tab3 : nE 6 10 = 0 ∧ nA 6 10 = 1024 ∧ nN 6 10 = 6 ∧ nE 6 12 = 0 ∧ nA 6 12 = 2048 ∧ nN 6 12 = 6 := by decide +kernel
theorem may_of {r mc mt : Nat} (h : Aut.may r mc mt = true) : 1 ≤ r ∧ r ≤ 1000 ∧ 1 ≤ mc ∧ mc ≤ 20 ∧ 1 ≤ mt ∧ mt ≤ 20 := by
  simp only [Aut.may, Aut.ok, Bool.and_eq_true, decide_eq_true_eq] at h
  omega
theorem x0_inv {r mc mt : Nat} (h : Aut.may r mc mt = true) : Inv (x0 r mc mt) := by
  obtain ⟨h1, h2, h3, h4, h5, h6⟩ := may_of h
  exact ⟨h1, h2, h3, h4, h5, h6, (show 0 < 10 by decide), Nat.zero_le _, Nat.zero_le _, rfl⟩
theorem x6_inv {r mc mt c l : Nat} (h : Aut.may r mc mt = true) (hc : c ≤ mc) (hl : l ≤ r) (h0 : 0 < l) : Inv (x6 r mc mt c l) := by
  obtain ⟨h1, h2, h3, h4, h5, h6⟩ := may_of h
  refine ⟨h1, h2, h3, h4, h5, h6, by show 6 < 10; decide, ?_, hl, ?_⟩
  · show c ≤ max mc mt
    omega
  · show timed 6 = decide (0 < l)
    rw [decide_eq_true h0]
    rfl
theorem open_x (r mc mt : Nat) : evA (x0 r mc mt) 2 = 4 ∧ evE (x0 r mc mt) 2 = 0 ∧ evX (x0 r mc mt) 2 = x1 r mc mt := by
  obtain ⟨a, b, c, _⟩ := tab1
  refine ⟨b, a, ?_⟩
  show Aut.come (x0 r mc mt) 2 = _
  unfold Aut.come
  show (if nE 0 2 = 0 then Aut.fin (nN 0 2) (Aut.acts (nA 0 2) (x0 r mc mt)) else _) = _
  rw [if_pos a, b, c, Aut.acts_is]
  simp only [show has 4 16 = false by decide, show has 4 32 = false by decide, show has 4 64 = false by decide, show has 4 512 = false by decide]
  rfl
theorem up_x (r mc mt : Nat) : evA (x1 r mc mt) 0 = 80 ∧ evE (x1 r mc mt) 0 = 0 ∧ evX (x1 r mc mt) 0 = x6 r mc mt (mc - 1) r := by
  obtain ⟨_, _, _, a, b, c⟩ := tab1
  refine ⟨b, a, ?_⟩
  show Aut.come (x1 r mc mt) 0 = _
  unfold Aut.come
  show (if nE 1 0 = 0 then Aut.fin (nN 1 0) (Aut.acts (nA 1 0) (x1 r mc mt)) else _) = _
  rw [if_pos a, b, c, Aut.acts_is]
  simp only [show has 80 16 = true by decide, show has 80 32 = false by decide, show has 80 64 = true by decide, show has 80 512 = false by decide]
  rfl
theorem bits4 : bitsTo 4 13 = [4] := by decide
theorem bits80 : bitsTo 80 13 = [16, 64] := by decide
theorem bits64 : bitsTo 64 13 = [64] := by decide
theorem bits8 : bitsTo 8 13 = [8] := by decide
theorem bits0 : bitsTo 0 13 = [] := by decide
theorem bits1024 : bitsTo 1024 13 = [1024] := by decide
theorem bits2048 : bitsTo 2048 13 = [2048] := by decide
/-- The n-th request. -/
def rq (D : ByteArray) (n : Nat) : Pk := ⟨1, UInt8.ofNat (n + 1), D⟩
def rqs (D : ByteArray) (n : Nat) : List Pk := (List.range n).map (rq D)
theorem rqs_succ (D : ByteArray) (n : Nat) : rqs D (n + 1) = rqs D n ++ [rq D n] := by
  unfold rqs
  rw [List.range_succ, List.map_append]
  rfl
theorem rqs_len (D : ByteArray) (n : Nat) : (rqs D n).length = n := by unfold rqs; simp
/-- The side that sent n requests. -/
def s6 (K : Kd) (r mc mt c l n : Nat) (p : K.α) : Sd K := ⟨x6 r mc mt c l, p, 1500, n, true, n⟩
def s3 (K : Kd) (r mc mt n : Nat) (p : K.α) : Sd K := ⟨⟨r, mc, mt, 3, 0, 0⟩, p, 1500, n, true, n⟩
def reqD (K : Kd) (p : K.α) : ByteArray := bOf (enc (K.req p))
theorem open_s (K : Kd) (r mc mt : Nat) (p : K.α) (d : UInt32) : evS 2 d (newSd K r mc mt p) = ({ newSd K r mc mt p with x := x1 r mc mt }, []) := by
  obtain ⟨a, b, c⟩ := open_x r mc mt
  unfold evS
  show perL _ (bitsTo (evA (x0 r mc mt) 2) 13) _ = _
  rw [a, bits4]
  have e : ({ ren 2 d (newSd K r mc mt p) with x := evX (newSd K r mc mt p).x 2 } : Sd K) = { newSd K r mc mt p with x := x1 r mc mt } := by
    rw [show evX (newSd K r mc mt p).x 2 = x1 r mc mt from c]
    rfl
  rw [e]
  rfl
theorem up_s (K : Kd) (r mc mt : Nat) (p : K.α) (d : UInt32) : evS 0 d { newSd K r mc mt p with x := x1 r mc mt } = (s6 K r mc mt (mc - 1) r 1 (K.renew p d), rqs (reqD K (K.renew p d)) 1) := by
  obtain ⟨a, b, c⟩ := up_x r mc mt
  unfold evS
  show perL _ (bitsTo (evA (x1 r mc mt) 0) 13) _ = _
  rw [a, bits80]
  have e : ({ ren 0 d { newSd K r mc mt p with x := x1 r mc mt } with x := evX (x1 r mc mt) 0 } : Sd K) = { newSd K r mc mt (K.renew p d) with x := x6 r mc mt (mc - 1) r } := by
    rw [c]
    unfold ren
    have ha : anew (x1 r mc mt) 0 = true := by
      have e1 : (x1 r mc mt).s = 1 := rfl
      unfold anew
      rw [e1, tab1.2.2.2.2.1]
      decide
    rw [if_pos ha]
    rfl
  rw [e]
  rfl
/-- A tick. -/
theorem tick_on {r mc mt c l n : Nat} (K : Kd) (p : K.α) (d : UInt32) (hl : 1 < l) : tkS (x6 r mc mt c l) = 0 ∧ tkSd d (s6 K r mc mt c l n p) = (s6 K r mc mt c (l - 1) n p, []) := by
  have h1 : tkS (x6 r mc mt c l) = 0 := if_neg (by show ¬ l = 1; omega)
  refine ⟨h1, ?_⟩
  unfold tkSd
  show perL _ (bitsTo (tkS (x6 r mc mt c l)) 13) { s6 K r mc mt c l n p with x := tk (x6 r mc mt c l) } = _
  have h2 : tk (x6 r mc mt c l) = x6 r mc mt c (l - 1) := by
    unfold tk
    rw [if_neg (by show ¬ l = 0; omega), if_neg (by show ¬ l = 1; omega)]
    rfl
  rw [h1, bits0, h2]
  rfl
theorem tick_send {r mc mt c n : Nat} (K : Kd) (p : K.α) (d : UInt32) (h : Aut.may r mc mt = true) (hc : c ≤ mc) (h0 : c ≠ 0) (hn : n < 255) : tkS (x6 r mc mt c 1) = 64 ∧ tkSd d (s6 K r mc mt c 1 n p) = (s6 K r mc mt (c - 1) r (n + 1) p, [rq (reqD K p) n]) := by
  have hi := x6_inv (l := 1) h hc (may_of h).1 (by decide)
  obtain ⟨_, he, _⟩ := Aut.expire hi rfl r
  have ht : tev (x6 r mc mt c 1) = 4 := if_neg h0
  have h1 : tkS (x6 r mc mt c 1) = 64 := by
    unfold tkS
    rw [if_pos (show (x6 r mc mt c 1).l = 1 from rfl), ht]
    exact tab2.2.1
  have h2 : tk (x6 r mc mt c 1) = x6 r mc mt (c - 1) r := by
    unfold tk
    rw [if_neg (show ¬ (x6 r mc mt c 1).l = 0 from (by show ¬ 1 = 0; decide)), if_pos (show (x6 r mc mt c 1).l = 1 from rfl)]
    refine ((he h0).2).trans ?_
    show (⟨r, mc, mt, nN 6 4, c - 1, r⟩ : Au) = _
    rw [tab2.2.2.1]
    rfl
  refine ⟨h1, ?_⟩
  unfold tkSd
  show perL _ (bitsTo (tkS (x6 r mc mt c 1)) 13) { s6 K r mc mt c 1 n p with x := tk (x6 r mc mt c 1) } = _
  rw [h1, bits64, h2]
  show (asks ({ s6 K r mc mt c 1 n p with x := x6 r mc mt (c - 1) r } : Sd K), [(⟨1, UInt8.ofNat ((n + 1) % 256), reqD K p⟩ : Pk)]) = _
  unfold asks
  show (({ s6 K r mc mt c 1 n p with x := x6 r mc mt (c - 1) r, cnt := (n + 1) % 256, asked := true, last := (n + 1) % 256 } : Sd K), [(⟨1, UInt8.ofNat ((n + 1) % 256), reqD K p⟩ : Pk)]) = _
  rw [Nat.mod_eq_of_lt (by omega : n + 1 < 256)]
  rfl
theorem tick_end {r mc mt n : Nat} (K : Kd) (p : K.α) (d : UInt32) (h : Aut.may r mc mt = true) : tkS (x6 r mc mt 0 1) = 8 ∧ tkSd d (s6 K r mc mt 0 1 n p) = (s3 K r mc mt n p, []) := by
  have hi := x6_inv (l := 1) (c := 0) h (Nat.zero_le _) (may_of h).1 (by decide)
  obtain ⟨_, _, he⟩ := Aut.expire hi rfl r
  have ht : tev (x6 r mc mt 0 1) = 5 := if_pos rfl
  have h1 : tkS (x6 r mc mt 0 1) = 8 := (he rfl).1
  have h2 : tk (x6 r mc mt 0 1) = ⟨r, mc, mt, 3, 0, 0⟩ := by
    unfold tk
    rw [if_neg (show ¬ (x6 r mc mt 0 1).l = 0 from (by show ¬ 1 = 0; decide)), if_pos (show (x6 r mc mt 0 1).l = 1 from rfl)]
    refine ((he rfl).2).trans ?_
    show (⟨r, mc, mt, nN 6 5, 0, 0⟩ : Au) = _
    rw [tab2.2.2.2.2.2]
  refine ⟨h1, ?_⟩
  unfold tkSd
  show perL _ (bitsTo (tkS (x6 r mc mt 0 1)) 13) { s6 K r mc mt 0 1 n p with x := tk (x6 r mc mt 0 1) } = _
  rw [h1, bits8, h2]
  rfl
theorem tick_off {r mc mt n : Nat} (K : Kd) (p : K.α) (d : UInt32) : tkS (⟨r, mc, mt, 3, 0, 0⟩ : Au) = 0 ∧ tkSd d (s3 K r mc mt n p) = (s3 K r mc mt n p, []) := by
  refine ⟨rfl, ?_⟩
  unfold tkSd
  show perL _ (bitsTo 0 13) _ = _
  rw [bits0]
  rfl
end Go.Proofs.YtgefodpnhifmdaaGreat.Neg

/- A side's policy of IPCP, told as a copy. -/
namespace Go.Proofs.YtgefodpnhifmdaaGreat.Neg
open Go.RowKit Go.Proofs.YtgefodpnhifmdaaGreat.Oct Go.Proofs.YtgefodpnhifmdaaGreat.Row Go.Proofs.YtgefodpnhifmdaaGreat.Mem Go.Proofs.YtgefodpnhifmdaaGreat.Opt Go.Proofs.YtgefodpnhifmdaaGreat.Fsm

set_option maxHeartbeats 2000000 in
set_option maxRecDepth 100000 in
theorem side_ipcp (g a q : Nat) (s : Sd ipK) (w : World) (h : SAt ipK w g a q s) : Calls Tryz.prog 9 #[.pointer (some ⟨g, 0, none⟩)] w fun e w' => ∃ b, e = .returned (.pointer (some ⟨b, 0, none⟩)) ∧ Ipp.PAt w' b s.p ∧ Below w.heap.size w w' := by
  have c2 : w.cell? ⟨g, 2, none⟩ = some (.iface 57 (.agg #[.pointer (some ⟨q, 0, none⟩)])) := h.c 2
  have HP : Hid (Ipp.PAt w q s.p) := h.2.2.1
  have HC := Lib.hid (fun w h => Ipp.copy_any q s.p w h)
  have ht : ∀ w, (Instr.typeAssert (.iface 57 (.agg #[.pointer (some ⟨q, 0, none⟩)])) 65 57 true).run Tryz.prog w = .ok (.tuple #[.agg #[.pointer (some ⟨q, 0, none⟩)], .bool true]) w := fun w => by kernel_rfl
  have hb := (Below.refl w.heap.size w).alloc (Nat.le_refl _) (.cells #[.pointer (some ⟨q, 0, none⟩)] 57)
  have HP1 := Lib.hid (HP.out.callee hb)
  have HB := Lib.hid hb
  clear h hb
  go_enter Tryz.func9, Tryz.ntmps9
  go_wp2_with fail
  refine (HC.out _ HP1.out).mono ?_
  rintro e w1 ⟨b, rfl, hq, hp, hb1⟩
  have HP2 := Lib.hid hp
  have HB1 := Lib.hid (HB.out.trans (hb1.mono HB.out.size))
  clear hq hp hb1
  go_wp2
  go_ret
  exact ⟨b, rfl, HP2.out, HB1.out⟩
end Go.Proofs.YtgefodpnhifmdaaGreat.Neg
