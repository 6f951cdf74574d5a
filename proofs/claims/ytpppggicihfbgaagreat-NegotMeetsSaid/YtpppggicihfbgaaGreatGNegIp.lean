/- Put together: NegIp, NegH, NegJ, NegK, NegL, NegM. -/
import Derived.Test.YtpppggicihfbgaaGreatGNegA
import Derived.Test.YtpppggicihfbgaaGreatGIppN
import Derived.Test.YtpppggicihfbgaaGreatGNegF

/- The kind of IPCP's policies. -/
namespace Go.Proofs.YtpppggicihfbgaaGreat.Neg
open Go.RowKit Go.Proofs.YtpppggicihfbgaaGreat.Oct Go.Proofs.YtpppggicihfbgaaGreat.Row Go.Proofs.YtpppggicihfbgaaGreat.Mem Go.Proofs.YtpppggicihfbgaaGreat.Opt

theorem wt_small : ∀ (l : List Opt), (∀ o ∈ l, o.2.size ≤ 4) → wt l ≤ 6 * l.length
  | [], _ => Nat.le_refl _
  | o :: l, h => by
    have h1 := wt_small l (fun p hp => h p (List.mem_cons_of_mem _ hp))
    have h2 := h o (List.mem_cons_self ..)
    simp only [wt, List.length_cons]
    omega
theorem put_len (x : Ipc.Ipc) : (Ipc.put x).length ≤ 3 := Ipc.gat_three x ▸ Ipc.gat_len x 3
theorem put_four (x : Ipc.Ipc) : ∀ o ∈ Ipc.put x, o.2.size ≤ 4 := fun o ho => by
  have h := Ipc.put_good x o ho
  simp only [Ipc.good, Bool.and_eq_true, decide_eq_true_eq] at h
  omega
theorem pe_put (x : Ipc.Ipc) : pE (Ipc.put x) = 0 := by
  refine pE_zero.2 ⟨by have := put_len x; omega, ?_, by have := wt_small _ (put_four x); have := put_len x; omega⟩
  unfold big
  rw [List.any_eq_false]
  intro o ho
  have := put_four x o ho
  simp only [decide_eq_true_eq]
  omega
theorem boxI (w : World) (q : Nat) : ∃ W, w.alloc (.cells #[.pointer (some ⟨q, 0, none⟩)] 83) = W ∧ Hid (Blk W w.heap.size [.pointer (some ⟨q, 0, none⟩)] 83 ∧ Below w.heap.size w W) :=
  ⟨_, rfl, blk_new w [.pointer (some ⟨q, 0, none⟩)] _, (Below.refl w.heap.size w).alloc (Nat.le_refl _) _⟩
set_option maxHeartbeats 2000000 in
set_option maxRecDepth 100000 in
theorem ip_renew (q : Nat) (p : Ipp.Po) (w : World) (d : UInt32) (h : Ipp.PAt w q p) : Calls Tryz.prog 252 #[.agg #[ptr q], .int .u32 d.toNat] w fun e w' => e = .returned (.tuple #[]) ∧ Ipp.PAt w' q (Ipp.newP p.c) ∧ Moves (fun k => k = q) w w' := by
  obtain ⟨W, hW, HW⟩ := boxI w q
  have H := Lib.hid (h.callee HW.out.2)
  have M : Hid (Moves (fun k => k = q) w W) := Moves.of_below HW.out.2
  have HR := Lib.hid (Ipp.reset_any q p W H.out)
  have c0 : W.cell? ⟨w.heap.size, 0, none⟩ = some (.pointer (some ⟨q, 0, none⟩)) := HW.out.1.at_ 0
  clear h HW
  unfold ptr
  go_enter Tryz.func252, Tryz.ntmps252
  go_wp2_with fail
  refine HR.out.mono ?_
  rintro e w1 ⟨rfl, hp, hm⟩
  have HP := Lib.hid hp
  have M1 := Lib.hid (M.out.trans hm fun _ _ x => x)
  clear hp hm
  go_wp2
  go_end0
  exact ⟨rfl, HP.out, M1.out⟩
set_option maxRecDepth 100000 in
def ipK : Kd where
  α := Ipp.Po
  proto := 32801
  ty := 83
  At := Ipp.PAt
  lt := Ipp.PAt.lt
  moves := fun h hm hs => Ipp.PAt.moves h hm hs
  ok := fun p => Ipc.may p.w = true
  req := Ipp.req
  fRequest := 215
  eRequest := enters_of Tryz.func215 (by kernel_rfl) rfl
  mRequest := fun k hk q w => by subst hk; kernel_rfl
  cRequest := fun q p w h hok => (Ipp.request_any q p w h hok).mono fun e w' ⟨A, c, he, hO, _, hb⟩ => ⟨A, c, he, hO, hb⟩
  magic := fun _ => 0
  renew := fun p _ => Ipp.newP p.c
  fRenew := 252
  eRenew := enters_of Tryz.func252 (by kernel_rfl) rfl
  mRenew := fun k hk q w => by subst hk; kernel_rfl
  cRenew := fun q p w d h _ => ip_renew q p w d h
  okRenew := fun p d _ => by
    show Ipc.may (Ipp.newP p.c).w = true
    simp [Ipc.may, Ipp.newP, Ipp.wish]
  rq := fun p _ => ⟨pe_put p.w, by have h := put_len p.w; show (Ipc.put p.w).length ≤ _; unfold maxLen; omega⟩
end Go.Proofs.YtpppggicihfbgaaGreat.Neg

/- Sides are made. -/
namespace Go.Proofs.YtpppggicihfbgaaGreat.Neg
open Go.RowKit Go.Proofs.YtpppggicihfbgaaGreat.Oct Go.Proofs.YtpppggicihfbgaaGreat.Row Go.Proofs.YtpppggicihfbgaaGreat.Mem Go.Proofs.YtpppggicihfbgaaGreat.Opt Go.Proofs.YtpppggicihfbgaaGreat.Fsm
open Go.Proofs.YtpppggicihfbgaaGreat.Aut (Au Aut Inv)

def newSd (K : Kd) (r mc mt : Nat) (p : K.α) : Sd K := ⟨⟨r, mc, mt, 0, 0, 0⟩, p, 1500, 0, false, 0⟩
def MadeQ (K : Kd) (q : Nat) (s : Sd K) (w : World) (e : Ending) (w' : World) : Prop :=
  ∃ g a, e = .returned (.tuple #[.pointer (some ⟨g, 0, none⟩), .int .i64 0]) ∧ w.heap.size ≤ g ∧ w.heap.size ≤ a ∧ SAt K w' g a q s ∧ Below w.heap.size w w'
theorem boxA (w : World) (a b d : Int) : ∃ W, w.alloc (.cells #[.int .i64 a, .int .i64 b, .int .i64 d] 34) = W ∧ Hid (Blk W w.heap.size [.int .i64 a, .int .i64 b, .int .i64 d] 34 ∧ Below w.heap.size w W) :=
  ⟨_, rfl, blk_new w [.int .i64 a, .int .i64 b, .int .i64 d] _, (Below.refl w.heap.size w).alloc (Nat.le_refl _) _⟩
set_option maxHeartbeats 2000000 in
set_option maxRecDepth 100000 in
theorem made_ok (K : Kd) (q r mc mt : Nat) (p : K.α) (w : World) (hp : K.At w q p) (h : Aut.may r mc mt = true) :
    Calls Tryz.prog 20 #[.agg #[.int .i64 r, .int .i64 mc, .int .i64 mt], .int .u16 K.proto, .iface K.ty (.agg #[.pointer (some ⟨q, 0, none⟩)])] w (MadeQ K q (newSd K r mc mt p) w) := by
  obtain ⟨W, hW, HW⟩ := boxA w r mc mt
  have HB := Lib.hid HW.out.2
  have HP := Lib.hid (K.callee hp HW.out.2)
  have HN := Lib.hid (Aut.new_ok r mc mt W h)
  have c0 : W.cell? ⟨w.heap.size, 0, none⟩ = some (.int .i64 r) := HW.out.1.at_ 0
  have c1 : W.cell? ⟨w.heap.size, 1, none⟩ = some (.int .i64 mc) := HW.out.1.at_ 1
  have c2 : W.cell? ⟨w.heap.size, 2, none⟩ = some (.int .i64 mt) := HW.out.1.at_ 2
  clear hp h HW
  go_enter Tryz.func20, Tryz.ntmps20
  go_wp2_with fail
  refine HN.out.mono ?_
  rintro e w1 ⟨a, rfl, hga, hau, hb1⟩
  have HA := Lib.hid hau
  have HP1 := Lib.hid (K.callee HP.out hb1)
  have HB1 := Lib.hid (HB.out.trans (hb1.mono HB.out.size))
  have hwa : Hid (w.heap.size ≤ a) := Nat.le_trans HB.out.size hga
  have hqa : Hid (a ≠ q) := by have := K.lt HP.out; show a ≠ q; omega
  clear hga hau hb1 hW c0 c1 c2
  obtain ⟨V, hV⟩ : ∃ V, w1.alloc (.cells #[.pointer (some ⟨a, 0, none⟩), .int .u16 K.proto, .iface K.ty (.agg #[.pointer (some ⟨q, 0, none⟩)]), .int .i64 1500, .int .u8 0, .bool false, .int .u8 0] 74) = V := ⟨_, rfl⟩
  have HS : Hid (SAt K V w1.heap.size a q (newSd K r mc mt p) ∧ Below w.heap.size w V) := by
    rw [← hV]
    have hb := (Below.refl w1.heap.size w1).alloc (Nat.le_refl _) (.cells #[.pointer (some ⟨a, 0, none⟩), .int .u16 K.proto, .iface K.ty (.agg #[.pointer (some ⟨q, 0, none⟩)]), .int .i64 1500, .int .u8 0, .bool false, .int .u8 0] 74)
    exact ⟨⟨blk_new w1 (sv K a q (newSd K r mc mt p)) _, HA.out.callee hb, K.callee HP1.out hb, Nat.ne_of_lt HA.out.lt, Nat.ne_of_lt (K.lt HP1.out), hqa.out⟩, HB1.out.trans (hb.mono HB1.out.size)⟩
  have hw1 : Hid (w.heap.size ≤ w1.heap.size) := HB1.out.size
  clear HA HP1 HB1
  go_wp2
  go_ret2
  exact ⟨w1.heap.size, a, rfl, hw1.out, hwa.out, HS.out.1, HS.out.2⟩
set_option maxHeartbeats 2000000 in
set_option maxRecDepth 100000 in
theorem made_no (K : Kd) (v : Value) (a b d : Int) (w : World) (h : Aut.may a b d = false) :
    Calls Tryz.prog 20 #[.agg #[.int .i64 a, .int .i64 b, .int .i64 d], .int .u16 K.proto, v] w fun e w' => e = .returned (.tuple #[.pointer none, .int .i64 2]) ∧ Below w.heap.size w w' := by
  obtain ⟨W, hW, HW⟩ := boxA w a b d
  have HB := Lib.hid HW.out.2
  have HN := Lib.hid (Aut.new_no a b d W h)
  have c0 : W.cell? ⟨w.heap.size, 0, none⟩ = some (.int .i64 a) := HW.out.1.at_ 0
  have c1 : W.cell? ⟨w.heap.size, 1, none⟩ = some (.int .i64 b) := HW.out.1.at_ 1
  have c2 : W.cell? ⟨w.heap.size, 2, none⟩ = some (.int .i64 d) := HW.out.1.at_ 2
  clear h HW
  go_enter Tryz.func20, Tryz.ntmps20
  go_wp2_with fail
  refine HN.out.mono ?_
  rintro e w1 ⟨rfl, hb1⟩
  have HB1 := Lib.hid (HB.out.trans (hb1.mono HB.out.size))
  clear hb1 hW c0 c1 c2
  go_wp2
  go_ret2
  exact ⟨rfl, HB1.out⟩

/-! ### IPCP -/
theorem boxAC (w : World) (a b d : Int) (c : Ipp.Conf) : ∃ W, (w.alloc (.cells #[.int .i64 a, .int .i64 b, .int .i64 d] 34)).alloc (.cells #[Value.int .u32 c.addr.toNat, .int .u32 c.peer.toNat, .int .u32 c.dns1.toNat, .int .u32 c.dns2.toNat, .bool c.want, .int .i64 c.mn] 48) = W ∧
    Hid (Blk W w.heap.size [.int .i64 a, .int .i64 b, .int .i64 d] 34 ∧ Ipp.CAt W (w.heap.size + 1) c ∧ Below w.heap.size w W) := by
  refine ⟨_, rfl, (blk_new w [.int .i64 a, .int .i64 b, .int .i64 d] _).alloc _, ?_, ((Below.refl w.heap.size w).alloc (Nat.le_refl _) _).alloc (by rw [World.size_alloc]; exact Nat.le_succ _) _⟩
  have := Ipp.cat_new (w.alloc (.cells #[.int .i64 a, .int .i64 b, .int .i64 d] 34)) c
  rw [World.size_alloc] at this
  exact this
def NewQ (K : Kd) (s : Sd K) (w : World) (e : Ending) (w' : World) : Prop :=
  ∃ g a q, e = .returned (.tuple #[.pointer (some ⟨g, 0, none⟩), .int .i64 0]) ∧ w.heap.size ≤ g ∧ w.heap.size ≤ a ∧ w.heap.size ≤ q ∧ SAt K w' g a q s ∧ Below w.heap.size w w'
set_option maxHeartbeats 2000000 in
set_option maxRecDepth 100000 in
theorem ipcp_ok (r mc mt : Nat) (c : Ipp.Conf) (w : World) (h : Aut.may r mc mt = true) (hc : Ipp.mayC c = true) :
    Calls Tryz.prog 15 #[.agg #[.int .i64 r, .int .i64 mc, .int .i64 mt], .agg #[Value.int .u32 c.addr.toNat, .int .u32 c.peer.toNat, .int .u32 c.dns1.toNat, .int .u32 c.dns2.toNat, .bool c.want, .int .i64 c.mn]] w (NewQ ipK (newSd ipK r mc mt (Ipp.newP c)) w) := by
  obtain ⟨W, hW, HW⟩ := boxAC w r mc mt c
  have HB := Lib.hid HW.out.2.2
  have HA := Lib.hid HW.out.1
  have HN := Lib.hid (Ipp.new_ok c W hc)
  obtain ⟨c0, c1, c2, c3, c4, c5⟩ := HW.out.2.1.all
  have HM : Hid (∀ q w, Ipp.PAt w q (Ipp.newP c) → Calls Tryz.prog 20 #[.agg #[.int .i64 r, .int .i64 mc, .int .i64 mt], .int .u16 32801, .iface 83 (.agg #[.pointer (some ⟨q, 0, none⟩)])] w (MadeQ ipK q (newSd ipK r mc mt (Ipp.newP c)) w)) := fun q w hp => made_ok ipK q r mc mt (Ipp.newP c) w hp h
  clear h hc HW
  go_enter Tryz.func15, Tryz.ntmps15
  go_wp2_with fail
  refine HN.out.mono ?_
  rintro e w1 ⟨q, rfl, hgq, hp, hb1⟩
  have HP := Lib.hid hp
  have HB1 := Lib.hid (HB.out.trans (hb1.mono HB.out.size))
  have hwq : Hid (w.heap.size ≤ q) := Nat.le_trans HB.out.size hgq
  have HA1 := Lib.hid (HA.out.callee hb1)
  clear hgq hp hb1 hW c0 c1 c2 c3 c4 c5 HA
  have c0 : w1.cell? ⟨w.heap.size, 0, none⟩ = some (.int .i64 r) := HA1.out.at_ 0
  have c1 : w1.cell? ⟨w.heap.size, 1, none⟩ = some (.int .i64 mc) := HA1.out.at_ 1
  have c2 : w1.cell? ⟨w.heap.size, 2, none⟩ = some (.int .i64 mt) := HA1.out.at_ 2
  go_wp2_with fail
  refine (HM.out _ _ HP.out).mono ?_
  rintro e w2 ⟨g, a, rfl, hg, ha, hs, hb2⟩
  have HS := Lib.hid hs
  have HB2 := Lib.hid (HB1.out.trans (hb2.mono HB1.out.size))
  have hw2 : Hid (w.heap.size ≤ g ∧ w.heap.size ≤ a) := ⟨Nat.le_trans HB1.out.size hg, Nat.le_trans HB1.out.size ha⟩
  clear hg ha hs hb2
  go_wp2
  go_ret2
  exact ⟨g, a, q, rfl, hw2.out.1, hw2.out.2, hwq.out, HS.out, HB2.out⟩
def NoQ (w : World) (e : Ending) (w' : World) : Prop := e = .returned (.tuple #[.pointer none, .int .i64 2]) ∧ Below w.heap.size w w'
set_option maxHeartbeats 2000000 in
set_option maxRecDepth 100000 in
theorem ipcp_no (x y z : Int) (c : Ipp.Conf) (w : World) (h : (Aut.may x y z && Ipp.mayC c) = false) :
    Calls Tryz.prog 15 #[.agg #[.int .i64 x, .int .i64 y, .int .i64 z], .agg #[Value.int .u32 c.addr.toNat, .int .u32 c.peer.toNat, .int .u32 c.dns1.toNat, .int .u32 c.dns2.toNat, .bool c.want, .int .i64 c.mn]] w (NoQ w) := by
  obtain ⟨W, hW, HW⟩ := boxAC w x y z c
  have HB := Lib.hid HW.out.2.2
  have HA := Lib.hid HW.out.1
  obtain ⟨c0, c1, c2, c3, c4, c5⟩ := HW.out.2.1.all
  cases hc : Ipp.mayC c
  · have HN := Lib.hid (Ipp.new_no c W hc)
    clear h hc HW HA
    go_enter Tryz.func15, Tryz.ntmps15
    go_wp2_with fail
    refine HN.out.mono ?_
    rintro e w1 ⟨rfl, hb1⟩
    have HB1 := Lib.hid (HB.out.trans (hb1.mono HB.out.size))
    clear hb1 hW c0 c1 c2 c3 c4 c5
    go_wp2
    go_ret2
    exact ⟨rfl, HB1.out⟩
  · have h' : Aut.may x y z = false := by rw [hc, Bool.and_true] at h; exact h
    have HN := Lib.hid (Ipp.new_ok c W hc)
    have HM : Hid (∀ v w, Calls Tryz.prog 20 #[.agg #[.int .i64 x, .int .i64 y, .int .i64 z], .int .u16 32801, v] w fun e w' => e = .returned (.tuple #[.pointer none, .int .i64 2]) ∧ Below w.heap.size w w') := fun v w => made_no ipK v x y z w h'
    clear h h' hc HW
    go_enter Tryz.func15, Tryz.ntmps15
    go_wp2_with fail
    refine HN.out.mono ?_
    rintro e w1 ⟨q, rfl, hgq, hp, hb1⟩
    have HB1 := Lib.hid (HB.out.trans (hb1.mono HB.out.size))
    have HA1 := Lib.hid (HA.out.callee hb1)
    clear hgq hp hb1 hW c0 c1 c2 c3 c4 c5 HA
    have c0 : w1.cell? ⟨w.heap.size, 0, none⟩ = some (.int .i64 x) := HA1.out.at_ 0
    have c1 : w1.cell? ⟨w.heap.size, 1, none⟩ = some (.int .i64 y) := HA1.out.at_ 1
    have c2 : w1.cell? ⟨w.heap.size, 2, none⟩ = some (.int .i64 z) := HA1.out.at_ 2
    go_wp2_with fail
    refine (HM.out _ _).mono ?_
    rintro e w2 ⟨rfl, hb2⟩
    have HB2 := Lib.hid (HB1.out.trans (hb2.mono HB1.out.size))
    clear hb2
    go_wp2
    go_ret2
    exact ⟨rfl, HB2.out⟩
end Go.Proofs.YtpppggicihfbgaaGreat.Neg

/- A side of IPCP that is opened, and up, to which nothing comes: numbers. -/
namespace Go.Proofs.YtpppggicihfbgaaGreat.Neg
open Go.RowKit Go.Proofs.YtpppggicihfbgaaGreat.Oct Go.Proofs.YtpppggicihfbgaaGreat.Row Go.Proofs.YtpppggicihfbgaaGreat.Mem Go.Proofs.YtpppggicihfbgaaGreat.Opt Go.Proofs.YtpppggicihfbgaaGreat.Fsm
open Go.Proofs.YtpppggicihfbgaaGreat.Aut (Au Aut Inv evA evE evX tk tkS tev)

def x0 (r mc mt : Nat) : Au := ⟨r, mc, mt, 0, 0, 0⟩
def x1 (r mc mt : Nat) : Au := ⟨r, mc, mt, 1, 0, 0⟩
def x6 (r mc mt c l : Nat) : Au := ⟨r, mc, mt, 6, c, l⟩
theorem tab1 : nE 0 2 = 0 ∧ nA 0 2 = 4 ∧ nN 0 2 = 1 ∧ nE 1 0 = 0 ∧ nA 1 0 = 80 ∧ nN 1 0 = 6 := by decide +kernel
theorem tab3 : nE 6 10 = 0 ∧ nA 6 10 = 1024 ∧ nN 6 10 = 6 ∧ nE 6 12 = 0 ∧ nA 6 12 = 2048 ∧ nN 6 12 = 6 := by decide +kernel
theorem may_of {r mc mt : Nat} (h : Aut.may r mc mt = true) : 1 ≤ r ∧ r ≤ 1000 ∧ 1 ≤ mc ∧ mc ≤ 20 ∧ 1 ≤ mt ∧ mt ≤ 20 := by
  simp only [Aut.may, Aut.ok, Bool.and_eq_true, decide_eq_true_eq] at h
  omega
theorem x0_inv {r mc mt : Nat} (h : Aut.may r mc mt = true) : Inv (x0 r mc mt) := by
  obtain ⟨h1, h2, h3, h4, h5, h6⟩ := may_of h
  exact ⟨h1, h2, h3, h4, h5, h6, (show 0 < 10 by decide), Nat.zero_le _, Nat.zero_le _, rfl⟩
theorem x6_inv {r mc mt c l : Nat} (h : Aut.may r mc mt = true) (hc : c ≤ mc) (hl : l ≤ r) (h0 : 0 < l) : Inv (x6 r mc mt c l) := by
  obtain ⟨h1, h2, h3, h4, h5, h6⟩ := may_of h
  refine ⟨h1, h2, h3, h4, h5, h6, by show 6 < 10; decide, ?_, hl, ?_⟩
  · show c ≤ max mc mt
    omega
  · show timed 6 = decide (0 < l)
    rw [decide_eq_true h0]
    rfl
theorem open_x (r mc mt : Nat) : evA (x0 r mc mt) 2 = 4 ∧ evE (x0 r mc mt) 2 = 0 ∧ evX (x0 r mc mt) 2 = x1 r mc mt := by
  obtain ⟨a, b, c, _⟩ := tab1
  refine ⟨b, a, ?_⟩
  show Aut.come (x0 r mc mt) 2 = _
  unfold Aut.come
  show (if nE 0 2 = 0 then Aut.fin (nN 0 2) (Aut.acts (nA 0 2) (x0 r mc mt)) else _) = _
  rw [if_pos a, b, c, Aut.acts_is]
  simp only [show has 4 16 = false by decide, show has 4 32 = false by decide, show has 4 64 = false by decide, show has 4 512 = false by decide]
  rfl
theorem up_x (r mc mt : Nat) : evA (x1 r mc mt) 0 = 80 ∧ evE (x1 r mc mt) 0 = 0 ∧ evX (x1 r mc mt) 0 = x6 r mc mt (mc - 1) r := by
  obtain ⟨_, _, _, a, b, c⟩ := tab1
  refine ⟨b, a, ?_⟩
  show Aut.come (x1 r mc mt) 0 = _
  unfold Aut.come
  show (if nE 1 0 = 0 then Aut.fin (nN 1 0) (Aut.acts (nA 1 0) (x1 r mc mt)) else _) = _
  rw [if_pos a, b, c, Aut.acts_is]
  simp only [show has 80 16 = true by decide, show has 80 32 = false by decide, show has 80 64 = true by decide, show has 80 512 = false by decide]
  rfl
theorem bits4 : bitsTo 4 13 = [4] := by decide
theorem bits80 : bitsTo 80 13 = [16, 64] := by decide
theorem bits1024 : bitsTo 1024 13 = [1024] := by decide
theorem bits2048 : bitsTo 2048 13 = [2048] := by decide
def rq (D : ByteArray) (n : Nat) : Pk := ⟨1, UInt8.ofNat (n + 1), D⟩
def rqs (D : ByteArray) (n : Nat) : List Pk := (List.range n).map (rq D)
theorem rqs_len (D : ByteArray) (n : Nat) : (rqs D n).length = n := by unfold rqs; simp
def s6 (K : Kd) (r mc mt c l n : Nat) (p : K.α) : Sd K := ⟨x6 r mc mt c l, p, 1500, n, true, n⟩
def reqD (K : Kd) (p : K.α) : ByteArray := bOf (enc (K.req p))
theorem open_s (K : Kd) (r mc mt : Nat) (p : K.α) (d : UInt32) : evS 2 d (newSd K r mc mt p) = ({ newSd K r mc mt p with x := x1 r mc mt }, []) := by
  obtain ⟨a, b, c⟩ := open_x r mc mt
  unfold evS
  show perL _ (bitsTo (evA (x0 r mc mt) 2) 13) _ = _
  rw [a, bits4]
  have e : ({ ren 2 d (newSd K r mc mt p) with x := evX (newSd K r mc mt p).x 2 } : Sd K) = { newSd K r mc mt p with x := x1 r mc mt } := by
    rw [show evX (newSd K r mc mt p).x 2 = x1 r mc mt from c]
    rfl
  rw [e]
  rfl
theorem up_s (K : Kd) (r mc mt : Nat) (p : K.α) (d : UInt32) : evS 0 d { newSd K r mc mt p with x := x1 r mc mt } = (s6 K r mc mt (mc - 1) r 1 (K.renew p d), rqs (reqD K (K.renew p d)) 1) := by
  obtain ⟨a, b, c⟩ := up_x r mc mt
  unfold evS
  show perL _ (bitsTo (evA (x1 r mc mt) 0) 13) _ = _
  rw [a, bits80]
  have e : ({ ren 0 d { newSd K r mc mt p with x := x1 r mc mt } with x := evX (x1 r mc mt) 0 } : Sd K) = { newSd K r mc mt (K.renew p d) with x := x6 r mc mt (mc - 1) r } := by
    rw [c]
    unfold ren
    have ha : anew (x1 r mc mt) 0 = true := by
      have e1 : (x1 r mc mt).s = 1 := rfl
      unfold anew
      rw [e1, tab1.2.2.2.2.1]
      decide
    rw [if_pos ha]
    rfl
  rw [e]
  rfl
end Go.Proofs.YtpppggicihfbgaaGreat.Neg

/- What the chapter's examples come to. -/
namespace Go.Proofs.YtpppggicihfbgaaGreat.Neg
open Go.RowKit Go.Proofs.YtpppggicihfbgaaGreat.Oct Go.Proofs.YtpppggicihfbgaaGreat.Row Go.Proofs.YtpppggicihfbgaaGreat.Mem Go.Proofs.YtpppggicihfbgaaGreat.Opt Go.Proofs.YtpppggicihfbgaaGreat.Fsm
open Go.Proofs.YtpppggicihfbgaaGreat.Aut (Au Aut Inv evA evE evX tk tkS tev)

/-! ### a Terminate-Request -/
set_option maxHeartbeats 4000000 in
set_option maxRecDepth 100000 in
theorem term_get (K : Kd) (g a q : Nat) (s : Sd K) (i : In) (A : Option Addr) (n c : Nat) (w : World) (h : SAt K w g a q s) (hok : Ok s) (ha : Ans w g a q A n i.ans) (hc : i.code < 256) (he : evE s.x 10 = 0) (h4 : has (evA s.x 10) 4096 = false) :
    Calls Tryz.prog 50 #[.pointer (some ⟨g, 0, none⟩), .agg #[.int .u32 i.draw, .int .u8 i.p.c.toNat, .int .u8 i.p.i.toNat, .string i.p.d, .int .u8 i.code, .slice A n c]] w (OutQ K g a q (fol i 10 s).1 (fol i 10 s).2 (told (evA s.x 10)) 0 false w) := by
  obtain ⟨W, hW, HW⟩ := box_io w i A n c
  have HF : Hid (∀ W, SAt K W g a q s → Ans W g a q A n i.ans → Calls Tryz.prog 37 #[.pointer (some ⟨g, 0, none⟩), .int .u8 10, .agg #[.int .u32 i.draw, .int .u8 i.p.c.toNat, .int .u8 i.p.i.toNat, .string i.p.d, .int .u8 i.code, .slice A n c]] W (OutQ K g a q (fol i 10 s).1 (fol i 10 s).2 (told (evA s.x 10)) 0 false W)) := fun W h1 h2 => follow_any K g a q s 10 i A n c W h1 hok.inv h2 he (does_no h4 ⟨evX_inv hok.inv 10, hok.pol, hok.m0, hok.m1, hok.c, hok.l⟩ hc)
  have HG := Lib.hid h.old
  have H := Lib.hid (h.callee HW.out.2.2)
  have M : Hid (Moves (My g a q) w W) := Moves.of_below HW.out.2.2
  have HA := Lib.hid (ha.moves M.out)
  have HI := Lib.hid HW.out.1
  have HZ := Lib.hid HW.out.2.1
  have d0 : W.cell? ⟨w.heap.size, 0, none⟩ = some (.int .u32 i.draw) := HI.out.at_ 0
  have d1 : W.cell? ⟨w.heap.size, 1, none⟩ = some (.int .u8 i.p.c.toNat) := HI.out.at_ 1
  have d2 : W.cell? ⟨w.heap.size, 2, none⟩ = some (.int .u8 i.p.i.toNat) := HI.out.at_ 2
  have d3 : W.cell? ⟨w.heap.size, 3, none⟩ = some (.string i.p.d) := HI.out.at_ 3
  have d4 : W.cell? ⟨w.heap.size, 4, none⟩ = some (.int .u8 i.code) := HI.out.at_ 4
  have d5 : W.cell? ⟨w.heap.size, 5, none⟩ = some (.slice A n c) := HI.out.at_ 5
  clear h hok ha hc he h4 HW
  generalize told (evA s.x 10) = T at *
  generalize fol i 10 s = r at *
  obtain ⟨s', l⟩ := r
  simp only at HF ⊢
  go_enter Tryz.func50, Tryz.ntmps50
  go_wp2_with fail
  refine (HF.out _ H.out HA.out).mono ?_
  rintro e w1 ⟨R, rc, rfl, hr, h1, hm1⟩
  have H1 := Lib.hid h1
  have M1 := Lib.hid (M.out.trans hm1 fun _ _ x => x)
  have HR := Lib.hid (own_mono hr M.out.size)
  have HZ1 := Lib.hid (HZ.out.moves hm1 (fun e => by have := HG.out _ e; omega))
  clear h1 hm1 hr HF d0 d1 d2 d3 d4 d5
  obtain ⟨z0, z1, z2, z3, y0, y1, y2, y3⟩ := out_facts HZ1.out
  go_wp2
  (try simp only [Exit.inBlock, Exit.then])
  refine bodyPost_ret (results_cell_row rfl _ _ (w.heap.size + 1) _ _ _ _ rfl (out_put HZ1.out (.slice R l.length rc) T 0 false).1 Tryz.underlying51 rfl (by kernel_rfl)) rfl ?_
  exact out_end1 HZ1.out HR.out H1.out M1.out (Nat.le_succ _) HG.out
theorem ev6 (r mc mt c l ev set : Nat) (ha : nA 6 ev = set) (he : nE 6 ev = 0) (hn : nN 6 ev = 6) (h4 : ev ≠ 4) (h5 : ev ≠ 5) (h1 : has set 16 = false) (h2 : has set 32 = false) (h3 : has set 64 = false) (h9 : has set 512 = false) :
    evA (x6 r mc mt c l) ev = set ∧ evE (x6 r mc mt c l) ev = 0 ∧ evX (x6 r mc mt c l) ev = x6 r mc mt c l := by
  have h : ¬ (ev = 4 ∨ ev = 5) := by omega
  unfold evA evE evX
  rw [if_neg h, if_neg h, if_neg h]
  refine ⟨ha, he, ?_⟩
  unfold Aut.come
  show (if nE 6 ev = 0 then Aut.fin (nN 6 ev) (Aut.acts (nA 6 ev) (x6 r mc mt c l)) else _) = _
  rw [if_pos he, ha, hn, Aut.acts_is, h1, h2, h3, h9]
  rfl
theorem s6_ok {K : Kd} {r mc mt c l n : Nat} {p : K.α} (h : Aut.may r mc mt = true) (hc : c ≤ mc) (hl : l ≤ r) (h0 : 0 < l) (hn : n < 256) (hp : K.ok p) : Ok (s6 K r mc mt c l n p) :=
  ⟨x6_inv h hc hl h0, hp, (show 64 ≤ 1500 by decide), (show 1500 ≤ 65535 by decide), hn, hn⟩
theorem new_ok' {K : Kd} {r mc mt : Nat} {p : K.α} (h : Aut.may r mc mt = true) (hp : K.ok p) : Ok (newSd K r mc mt p) :=
  ⟨x0_inv h, hp, (show 64 ≤ 1500 by decide), (show 1500 ≤ 65535 by decide), (show 0 < 256 by decide), (show 0 < 256 by decide)⟩
theorem new1_ok {K : Kd} {r mc mt : Nat} {p : K.α} (h : Aut.may r mc mt = true) (hp : K.ok p) : Ok ({ newSd K r mc mt p with x := x1 r mc mt } : Sd K) := by
  refine ⟨?_, hp, (show 64 ≤ 1500 by decide), (show 1500 ≤ 65535 by decide), (show 0 < 256 by decide), (show 0 < 256 by decide)⟩
  have h1 := evX_inv (x0_inv h) 2
  rw [(open_x r mc mt).2.2] at h1
  exact h1
/-! ### rows that are carried -/
def Rowk (w : World) (g a q : Nat) (R : Option Addr) (l : List Pk) : Prop := Pks w R l ∧ ∀ ad, R = some ad → ¬ My g a q ad.block
theorem rowk_of {w : World} {base g a q : Nat} {e : TypeId} {R : Option Addr} {c : Nat} {l : List Pk} (h : w.ownsRow base e 3 (.slice R l.length c) l.length (pksV l)) (hg : ∀ k, My g a q k → k < base) : Rowk w g a q R l := by
  refine ⟨pks_own h, fun ad e hk => ?_⟩
  subst e
  have h1 := h.lt ad.block rfl
  have := hg _ hk
  omega
theorem Rowk.moves {w w' : World} {g a q : Nat} {R : Option Addr} {l : List Pk} (h : Rowk w g a q R l) (hm : Moves (My g a q) w w') : Rowk w' g a q R l := ⟨h.1.moves hm h.2, h.2⟩
theorem Rowk.callee {w w' : World} {g a q : Nat} {R : Option Addr} {l : List Pk} (h : Rowk w g a q R l) (hb : Below w.heap.size w w') : Rowk w' g a q R l := ⟨h.1.below hb, h.2⟩
end Go.Proofs.YtpppggicihfbgaaGreat.Neg

/- alive. -/
namespace Go.Proofs.YtpppggicihfbgaaGreat.Neg
open Go.RowKit Go.Proofs.YtpppggicihfbgaaGreat.Oct Go.Proofs.YtpppggicihfbgaaGreat.Row Go.Proofs.YtpppggicihfbgaaGreat.Mem Go.Proofs.YtpppggicihfbgaaGreat.Opt Go.Proofs.YtpppggicihfbgaaGreat.Fsm
open Go.Proofs.YtpppggicihfbgaaGreat.Aut (Au Aut Inv evA evE evX tk tkS tev)

set_option maxHeartbeats 1000000 in
set_option maxRecDepth 100000 in
theorem auto_any (w : World) : Calls Tryz.prog 7 #[] w fun e w' => e = .returned (.agg #[.int .i64 3, .int .i64 10, .int .i64 2]) ∧ Below w.heap.size w w' := by
  go_enter Tryz.func7, Tryz.ntmps7
  go_wp2
  (try simp only [Exit.inBlock, Exit.then])
  refine bodyPost_ret (results_cell_row rfl _ _ w.heap.size _ _ _ _ rfl (blk_new w [.int .i64 3, .int .i64 10, .int .i64 2] 34) Tryz.underlying34 rfl (by kernel_rfl)) rfl ?_
  exact ⟨rfl, (Below.refl w.heap.size w).alloc (Nat.le_refl _) _⟩
def ec : Ipp.Conf := ⟨0, 0, 0, 0, false, 3⟩
def ep : Ipp.Po := Ipp.newP ec
def t0 : Sd ipK := newSd ipK 3 10 2 ep
def t1 : Sd ipK := { newSd ipK 3 10 2 ep with x := x1 3 10 2 }
def t2 : Sd ipK := s6 ipK 3 10 2 9 3 1 ep
def t3 : Sd ipK := { s6 ipK 3 10 2 9 3 1 ep with cnt := 2 }
def dR : ByteArray := ⟨#[3, 6, 0, 0, 0, 0]⟩
def dC : ByteArray := ⟨#[99, 1, 0, 4]⟩
theorem may3 : Aut.may 3 10 2 = true := by decide
theorem ep_ok : ipK.ok ep := by
  show Ipc.may ep.w = true
  decide
theorem ep_req : reqD ipK ep = dR := by
  show bOf (enc (Ipc.put ep.w)) = dR
  decide +kernel
theorem ev_open (g a q : Nat) (w : World) (h : SAt ipK w g a q t0) : Calls Tryz.prog 16 #[.pointer (some ⟨g, 0, none⟩), .int .u8 2, .int .u32 1] w (OccQ ipK g a q t1 [] 4 0 w) := by
  have h1 := event_ok ipK g a q t0 2 1 w h (new_ok' may3 ep_ok) (by decide) (open_x 3 10 2).2.1 (by rw [show t0.x = x0 3 10 2 from rfl, (open_x 3 10 2).1]; decide)
  rw [show t0.x = x0 3 10 2 from rfl, (open_x 3 10 2).1, show evS 2 1 t0 = _ from open_s ipK 3 10 2 ep 1] at h1
  exact h1
theorem ev_up (g a q : Nat) (w : World) (h : SAt ipK w g a q t1) : Calls Tryz.prog 16 #[.pointer (some ⟨g, 0, none⟩), .int .u8 0, .int .u32 1] w (OccQ ipK g a q t2 [⟨1, 1, dR⟩] 0 0 w) := by
  have h1 := event_ok ipK g a q t1 0 1 w h (new1_ok may3 ep_ok) (by decide) (up_x 3 10 2).2.1 (by rw [show t1.x = x1 3 10 2 from rfl, (up_x 3 10 2).1]; decide)
  rw [show t1.x = x1 3 10 2 from rfl, (up_x 3 10 2).1, show evS 0 1 t1 = _ from up_s ipK 3 10 2 ep 1, show ipK.renew ep 1 = ep from rfl, ep_req] at h1
  exact h1
theorem t2_ok : Ok t2 := s6_ok may3 (by decide) (by decide) (by decide) (by decide) ep_ok
theorem pk_term (g a q : Nat) (w : World) (h : SAt ipK w g a q t2) : Calls Tryz.prog 17 #[.pointer (some ⟨g, 0, none⟩), .agg #[.int .u8 5, .int .u8 7, .string ⟨#[]⟩], .int .u32 1] w (PakQ ipK g a q t2 [⟨6, 7, ⟨#[]⟩⟩] 0 0 false w) := by
  obtain ⟨b1, b2, b3, _⟩ := tab3
  obtain ⟨e1, e2, e3⟩ := ev6 3 10 2 9 3 10 1024 b2 b1 b3 (by decide) (by decide) (by decide) (by decide) (by decide) (by decide)
  have hf : fol ⟨1, ⟨5, 7, ⟨#[]⟩⟩, 0, []⟩ 10 t2 = (t2, [⟨6, 7, ⟨#[]⟩⟩]) := by
    unfold fol
    rw [show t2.x = x6 3 10 2 9 3 from rfl, e1, e3, bits1024]
    rfl
  refine packet_any ipK g a q t2 t2 ⟨5, 7, ⟨#[]⟩⟩ 1 [⟨6, 7, ⟨#[]⟩⟩] 0 0 false w h (fun W hW => ?_)
  refine receive_known ipK g a q t2 ⟨1, ⟨5, 7, ⟨#[]⟩⟩, 0, []⟩ none 0 0 W hW (by decide) (by decide) (ans_nil W g a q) (by decide) (by decide) (by decide) t2 [⟨6, 7, ⟨#[]⟩⟩] 0 0 false (fun U hU hA => ?_)
  have h1 := term_get ipK g a q t2 ⟨1, ⟨5, 7, ⟨#[]⟩⟩, 0, []⟩ none 0 0 U hU t2_ok hA (show 0 < 256 by decide) e2 (by rw [show t2.x = x6 3 10 2 9 3 from rfl, e1]; decide)
  rw [hf, show t2.x = x6 3 10 2 9 3 from rfl, e1] at h1
  exact h1
theorem pk_code (g a q : Nat) (w : World) (h : SAt ipK w g a q t2) : Calls Tryz.prog 17 #[.pointer (some ⟨g, 0, none⟩), .agg #[.int .u8 99, .int .u8 1, .string ⟨#[]⟩], .int .u32 1] w (PakQ ipK g a q t3 [⟨7, 2, dC⟩] 0 0 false w) := by
  obtain ⟨_, _, _, b1, b2, b3⟩ := tab3
  obtain ⟨e1, e2, e3⟩ := ev6 3 10 2 9 3 12 2048 b2 b1 b3 (by decide) (by decide) (by decide) (by decide) (by decide) (by decide)
  have hd : bOf ((Pkt.enc 99 1 (⟨#[]⟩ : ByteArray).toList).take (Rej.sp 1500)) = dC := by decide +kernel
  have hf : fol ⟨1, ⟨99, 1, ⟨#[]⟩⟩, 0, []⟩ 12 t2 = (t3, [⟨7, 2, dC⟩]) := by
    unfold fol
    rw [show t2.x = x6 3 10 2 9 3 from rfl, e1, e3, bits2048, ← hd]
    rfl
  refine packet_any ipK g a q t2 t3 ⟨99, 1, ⟨#[]⟩⟩ 1 [⟨7, 2, dC⟩] 0 0 false w h (fun W hW => ?_)
  have h1 := receive_ruc ipK g a q t2 ⟨1, ⟨99, 1, ⟨#[]⟩⟩, 0, []⟩ none 0 0 W hW (by decide) (by decide) (ans_nil W g a q) (by decide) t2_ok (show 0 < 256 by decide) e2 (by rw [show t2.x = x6 3 10 2 9 3 from rfl, e1]; decide)
  rw [hf, show t2.x = x6 3 10 2 9 3 from rfl, e1] at h1
  exact h1
end Go.Proofs.YtpppggicihfbgaaGreat.Neg

/- alive. Written by gen/neg_m.py. -/
namespace Go.Proofs.YtpppggicihfbgaaGreat.Neg
open Go.RowKit Go.Proofs.YtpppggicihfbgaaGreat.Oct Go.Proofs.YtpppggicihfbgaaGreat.Row Go.Proofs.YtpppggicihfbgaaGreat.Mem Go.Proofs.YtpppggicihfbgaaGreat.Opt Go.Proofs.YtpppggicihfbgaaGreat.Fsm
open Go.Proofs.YtpppggicihfbgaaGreat.Aut (Au Aut Inv)

theorem same_one (c i : UInt8) (d : ByteArray) (g a q rc : Nat) (R A : Option Addr) (w : World) (h : Rowk w g a q R [⟨c, i, d⟩]) (h' : Pks w A [⟨c, i, d⟩]) :
    Calls Tryz.prog 18 #[.agg #[.slice R 1 rc, .int .u16 0, .int .u16 0, .bool false], .agg #[.slice A 1 1, .int .u16 0, .int .u16 0, .bool false]] w fun e w' => e = .returned (.bool true) ∧ Below w.heap.size w w' :=
  same_yes [⟨c, i, d⟩] R A rc 1 0 0 false w (show 1 ≤ maxLen by unfold maxLen; decide) h.1 h'
structure Cy (w w' : World) (g a q : Nat) (s : Sd ipK) : Prop where
  s : SAt ipK w' g a q s
  b : Below w.heap.size w w'
  my : ∀ k, My g a q k → w.heap.size ≤ k
theorem Cy.callee {w w' w'' : World} {g a q : Nat} {s : Sd ipK} (h : Cy w w' g a q s) (hb : Below w'.heap.size w' w'') : Cy w w'' g a q s := ⟨h.s.callee hb, h.b.trans (hb.mono h.b.size), h.my⟩
theorem Cy.go {w w' w'' : World} {g a q : Nat} {s s' : Sd ipK} (h : Cy w w' g a q s) (hs : SAt ipK w'' g a q s') (hm : Moves (My g a q) w' w'') : Cy w w'' g a q s' := ⟨hs, h.b.trans (hm.below h.b.size h.my), h.my⟩
def Bx (w : World) (g a q b : Nat) (R : Option Addr) (rc : Nat) (l : List Pk) : Prop := Blk w b [.slice R l.length rc, .int .u16 0, .int .u16 0, .bool false] 51 ∧ Rowk w g a q R l ∧ ¬ My g a q b
theorem Bx.callee {w w' : World} {g a q b : Nat} {R : Option Addr} {rc : Nat} {l : List Pk} (h : Bx w g a q b R rc l) (hb : Below w.heap.size w w') : Bx w' g a q b R rc l := ⟨h.1.callee hb, h.2.1.callee hb, h.2.2⟩
theorem Bx.moves {w w' : World} {g a q b : Nat} {R : Option Addr} {rc : Nat} {l : List Pk} (h : Bx w g a q b R rc l) (hm : Moves (My g a q) w w') : Bx w' g a q b R rc l := ⟨h.1.moves hm h.2.2, h.2.1.moves hm, h.2.2⟩
theorem bx_new {w : World} {base g a q : Nat} {R : Option Addr} {rc : Nat} {l : List Pk} {s : Sd ipK} (h : w.ownsRow base 56 3 (.slice R l.length rc) l.length (pksV l)) (hg : ∀ k, My g a q k → k < base) (hs : SAt ipK w g a q s) : Bx (w.alloc (.cells #[.slice R l.length rc, .int .u16 0, .int .u16 0, .bool false] 51)) g a q w.heap.size R rc l :=
  ⟨blk_new w [.slice R l.length rc, .int .u16 0, .int .u16 0, .bool false] _, (rowk_of h hg).callee ((Below.refl _ _).alloc (Nat.le_refl _) _), fun e => by have := hs.old _ e; omega⟩
set_option maxHeartbeats 16000000 in
set_option maxRecDepth 100000 in
theorem alive_any (w : World) : Calls Tryz.prog 5 #[] w fun e w' => e = .returned (.bool true) ∧ Below w.heap.size w w' := by
  have A0 := Lib.hid auto_any
  have N1 : Hid (∀ w, Calls Tryz.prog 15 #[.agg #[.int .i64 3, .int .i64 10, .int .i64 2], .agg #[Value.int .u32 0, .int .u32 0, .int .u32 0, .int .u32 0, .bool false, .int .i64 3]] w (NewQ ipK t0 w)) := fun w => ipcp_ok 3 10 2 ec w may3 (by decide)
  have N2 : Hid (∀ w, Calls Tryz.prog 15 #[.agg #[.int .i64 3, .int .i64 10, .int .i64 2], .agg #[Value.int .u32 0, .int .u32 0, .int .u32 0, .int .u32 0, .bool false, .int .i64 0]] w (NoQ w)) := fun w => ipcp_no 3 10 2 ⟨0, 0, 0, 0, false, 0⟩ w (by decide)
  go_enter Tryz.func5, Tryz.ntmps5
  go_wp2_with fail
  refine (A0.out _).mono ?_
  rintro e w1 ⟨rfl, hb1⟩
  have B1 := Lib.hid hb1
  clear hb1
  go_wp2_with fail
  refine (N1.out _).mono ?_
  rintro e w2 ⟨g, a, q, rfl, hg, ha, hq, hs, hb2⟩
  have C2 : Hid (Cy w w2 g a q t0) := ⟨hs, B1.out.trans (hb2.mono B1.out.size), by have := B1.out.size; rintro k (rfl | rfl | rfl) <;> omega⟩
  clear hg ha hq hs hb2 B1 N1
  go_wp2_with fail
  refine (A0.out _).mono ?_
  rintro e w3 ⟨rfl, hb3⟩
  have C3 := Lib.hid (C2.out.callee hb3)
  clear hb3 C2 A0
  go_wp2_with fail
  refine (N2.out _).mono ?_
  rintro e w4 ⟨rfl, hb4⟩
  have C4 := Lib.hid (C3.out.callee hb4)
  clear hb4 C3 N2
  go_wp2_with fail
  refine (ev_open g a q _ C4.out.s).mono ?_
  rintro e w5 ⟨R0, rc0, rfl, hr, hs, hm⟩
  have C5 := Lib.hid (C4.out.go hs hm)
  clear hr hs hm C4
  go_wp2_with fail
  refine (ev_up g a q _ C5.out.s).mono ?_
  rintro e w6 ⟨R1, rc1, rfl, hr, hs, hm⟩
  have C6 := Lib.hid (C5.out.go hs hm)
  have X1 := Lib.hid (bx_new hr C5.out.s.old hs)
  have C6' := Lib.hid (C6.out.callee ((Below.refl _ _).alloc (Nat.le_refl _) (.cells #[.slice R1 1 rc1, .int .u16 0, .int .u16 0, .bool false] 51)))
  clear hr hs hm C5 C6
  go_wp2_with fail
  refine (pk_term g a q _ C6'.out.s).mono ?_
  rintro e w7 ⟨R2, rc2, rfl, hr, hs, hm⟩
  have C7 := Lib.hid (C6'.out.go hs hm)
  have X2 := Lib.hid (bx_new hr C6'.out.s.old hs)
  have hb7 := (Below.refl _ w7).alloc (Nat.le_refl _) (.cells #[.slice R2 1 rc2, .int .u16 0, .int .u16 0, .bool false] 51)
  have X1b := Lib.hid ((X1.out.moves hm).callee hb7)
  have C7' := Lib.hid (C7.out.callee hb7)
  clear hr hs hm C6' C7 X1 hb7
  go_wp2_with fail
  refine (pk_code g a q _ C7'.out.s).mono ?_
  rintro e w8 ⟨R3, rc3, rfl, hr, hs, hm⟩
  have C8 := Lib.hid (C7'.out.go hs hm)
  have X3 := Lib.hid (bx_new hr C7'.out.s.old hs)
  have hb8 := (Below.refl _ w8).alloc (Nat.le_refl _) (.cells #[.slice R3 1 rc3, .int .u16 0, .int .u16 0, .bool false] 51)
  have X1c := Lib.hid ((X1b.out.moves hm).callee hb8)
  have X2c := Lib.hid ((X2.out.moves hm).callee hb8)
  have B8 := Lib.hid (C8.out.callee hb8).b
  clear hr hs hm C7' C8 X1b X2 hb8
  have p00 : (w8.alloc (.cells #[.slice R3 1 rc3, .int .u16 0, .int .u16 0, .bool false] 51)).cell? ⟨w6.heap.size, 0, none⟩ = some (.slice R1 1 rc1) := X1c.out.1.at_ 0
  have p01 : (w8.alloc (.cells #[.slice R3 1 rc3, .int .u16 0, .int .u16 0, .bool false] 51)).cell? ⟨w6.heap.size, 1, none⟩ = some (.int .u16 0) := X1c.out.1.at_ 1
  have p02 : (w8.alloc (.cells #[.slice R3 1 rc3, .int .u16 0, .int .u16 0, .bool false] 51)).cell? ⟨w6.heap.size, 2, none⟩ = some (.int .u16 0) := X1c.out.1.at_ 2
  have p03 : (w8.alloc (.cells #[.slice R3 1 rc3, .int .u16 0, .int .u16 0, .bool false] 51)).cell? ⟨w6.heap.size, 3, none⟩ = some (.bool false) := X1c.out.1.at_ 3
  go_wp2_with fail
  have hl0 := (Below.refl _ (w8.alloc (.cells #[.slice R3 1 rc3, .int .u16 0, .int .u16 0, .bool false] 51))).alloc (Nat.le_refl _) (.cells #[.int .u8 1, .int .u8 1, .string ⟨#[3, 6, 0, 0, 0, 0]⟩] 56)
  have Y0 := Lib.hid (X1c.out.callee hl0)
  have Z0_1 := Lib.hid (X2c.out.callee hl0)
  have Z0_2 := Lib.hid (X3.out.callee hl0)
  have D0 := Lib.hid (B8.out.trans (hl0.mono B8.out.size))
  have hP0 := Lib.hid (pks_one (w8.alloc (.cells #[.slice R3 1 rc3, .int .u16 0, .int .u16 0, .bool false] 51)) ⟨1, 1, dR⟩ 56)
  rw [World.size_alloc] at hP0
  refine (same_one 1 1 dR g a q rc1 R1 _ _ Y0.out.2.1 hP0.out).mono ?_
  rintro e v0 ⟨rfl, hv0⟩
  have W0_1 := Lib.hid (Z0_1.out.callee hv0)
  have W0_2 := Lib.hid (Z0_2.out.callee hv0)
  have E0 := Lib.hid (D0.out.trans (hv0.mono D0.out.size))
  clear hl0 hv0 Y0 D0 p00 p01 p02 p03 X1c B8 Z0_1 X2c Z0_2 X3
  have p10 : v0.cell? ⟨w7.heap.size, 0, none⟩ = some (.slice R2 1 rc2) := W0_1.out.1.at_ 0
  have p11 : v0.cell? ⟨w7.heap.size, 1, none⟩ = some (.int .u16 0) := W0_1.out.1.at_ 1
  have p12 : v0.cell? ⟨w7.heap.size, 2, none⟩ = some (.int .u16 0) := W0_1.out.1.at_ 2
  have p13 : v0.cell? ⟨w7.heap.size, 3, none⟩ = some (.bool false) := W0_1.out.1.at_ 3
  go_wp2_with fail
  have hl1 := (Below.refl _ v0).alloc (Nat.le_refl _) (.cells #[.int .u8 6, .int .u8 7, .string ⟨#[]⟩] 56)
  have Y1 := Lib.hid (W0_1.out.callee hl1)
  have Z1_2 := Lib.hid (W0_2.out.callee hl1)
  have D1 := Lib.hid (E0.out.trans (hl1.mono E0.out.size))
  have hP1 := Lib.hid (pks_one v0 ⟨6, 7, ⟨#[]⟩⟩ 56)
  refine (same_one 6 7 ⟨#[]⟩ g a q rc2 R2 _ _ Y1.out.2.1 hP1.out).mono ?_
  rintro e v1 ⟨rfl, hv1⟩
  have W1_2 := Lib.hid (Z1_2.out.callee hv1)
  have E1 := Lib.hid (D1.out.trans (hv1.mono D1.out.size))
  clear hl1 hv1 Y1 D1 p10 p11 p12 p13 W0_1 E0 Z1_2 W0_2
  have p20 : v1.cell? ⟨w8.heap.size, 0, none⟩ = some (.slice R3 1 rc3) := W1_2.out.1.at_ 0
  have p21 : v1.cell? ⟨w8.heap.size, 1, none⟩ = some (.int .u16 0) := W1_2.out.1.at_ 1
  have p22 : v1.cell? ⟨w8.heap.size, 2, none⟩ = some (.int .u16 0) := W1_2.out.1.at_ 2
  have p23 : v1.cell? ⟨w8.heap.size, 3, none⟩ = some (.bool false) := W1_2.out.1.at_ 3
  go_wp2_with fail
  have hl2 := (Below.refl _ v1).alloc (Nat.le_refl _) (.cells #[.int .u8 7, .int .u8 2, .string ⟨#[99, 1, 0, 4]⟩] 56)
  have Y2 := Lib.hid (W1_2.out.callee hl2)
  have D2 := Lib.hid (E1.out.trans (hl2.mono E1.out.size))
  have hP2 := Lib.hid (pks_one v1 ⟨7, 2, dC⟩ 56)
  refine (same_one 7 2 dC g a q rc3 R3 _ _ Y2.out.2.1 hP2.out).mono ?_
  rintro e v2 ⟨rfl, hv2⟩
  have E2 := Lib.hid (D2.out.trans (hv2.mono D2.out.size))
  clear hl2 hv2 Y2 D2 p20 p21 p22 p23 W1_2 E1
  go_wp2
  go_ret
  exact ⟨rfl, E2.out⟩
end Go.Proofs.YtpppggicihfbgaaGreat.Neg
