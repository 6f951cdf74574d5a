/- Put together: NegU, NegV, NegP. -/
import Derived.Test.YtpppggicihfbgaaGreatGNegR
import Derived.Test.YtpppggicihfbgaaGreatGNegIp

/- A Configure-Nak's reply; what each kind of packet comes to. Written by gen/neg_u.py. -/
namespace Go.Proofs.YtpppggicihfbgaaGreat.Neg
open Go.RowKit Go.Proofs.YtpppggicihfbgaaGreat.Oct Go.Proofs.YtpppggicihfbgaaGreat.Row Go.Proofs.YtpppggicihfbgaaGreat.Mem Go.Proofs.YtpppggicihfbgaaGreat.Opt Go.Proofs.YtpppggicihfbgaaGreat.Fsm
open Go.Proofs.YtpppggicihfbgaaGreat.Aut (Au Aut Inv evA evE evX state_any)

structure Rn (K : Kd) where
  b : K.α → UInt32 → List Opt → Bool
  p : K.α → UInt32 → List Opt → K.α
  ok : ∀ x d l, K.ok x → K.ok (p x d l)
  f : FuncId
  e : ∀ args w, (callFunc f args).run Tryz.prog w = .ok (.enter f args) w
  m : ∀ k, k = Tryz.prog.types.size + Made.depth → ∀ q w, (method k K.ty (.agg #[ptr q]) "halyard/negot.naked").run Tryz.prog w = .ok (f, .agg #[ptr q]) w
  c : ∀ q x w (d : UInt32) (l : List Opt) A c, K.At w q x → K.ok x → Opts w w.heap.size A l.length l → (A = none → c = 0) → l.length ≤ 64 → Calls Tryz.prog f #[.agg #[ptr q], .int .u32 d.toNat, .slice A l.length c] w (TkQ K q (b x d l) (p x d l) w)
set_option maxHeartbeats 2000000 in
set_option maxRecDepth 100000 in
theorem nak_fn (K : Kd) (R : Rn K) (q : Nat) (x : K.α) (w : World) (d : UInt32) (l : List Opt) (A : Option Addr) (c bx : Nat) (h : K.At w q x) (hok : K.ok x) (hl : Opts w w.heap.size A l.length l) (hA : A = none → c = 0) (h64 : l.length ≤ 64) (hb : w.cell? ⟨bx, 0, none⟩ = some (.int .u32 d.toNat)) :
    Calls Tryz.prog 67 #[.iface K.ty (.agg #[.pointer (some ⟨q, 0, none⟩)]), .slice A l.length c, .pointer (some ⟨bx, 0, none⟩)] w (TkQ K q (R.b x d l) (R.p x d l) w) := by
  have HM := Lib.hid R.m
  have HE := R.e
  have HC := Lib.hid (R.c q x w d l A c h hok hl hA h64)
  unfold ptr at HM HC
  clear h hok hl hA h64
  go_enter Tryz.func67, Tryz.ntmps67
  go_wp2_with fail
  rw [HM.out _ (by kernel_rfl)]
  go_wp2_with fail
  refine HC.out.mono ?_
  rintro e w1 ⟨rfl, hp, hm⟩
  have HP := Lib.hid hp
  have HMv := Lib.hid hm
  clear hp hm
  go_wp2
  go_ret
  exact ⟨rfl, HP.out, HMv.out⟩
set_option maxHeartbeats 8000000 in
set_option maxRecDepth 100000 in
theorem nak_take (K : Kd) (R : Rn K) (dr : UInt32) (bx : Nat) (g a q : Nat) (s : Sd K) (i : In) (A : Option Addr) (n c ev : Nat) (w : World) (h : SAt K w g a q s) (hok : Ok s) (hs : s.x.s = 6 ∨ s.x.s = 8) (hn : s.asked = true) (hi : i.p.i.toNat = s.last) (hE : gE i.p.d.toList = 0) (ht : R.b s.p dr (gL i.p.d.toList) = true) (hdr : i.draw = dr.toNat) (hbx : w.cell? ⟨bx, 0, none⟩ = some (.int .u32 i.draw)) (hbm : ¬ My g a q bx) (ha : Ans w g a q A n i.ans) (hc : i.code < 256) (he : evE s.x ev = 0) (h4 : has (evA s.x ev) 4096 = false) :
    Calls Tryz.prog 66 #[.pointer (some ⟨g, 0, none⟩), .agg #[.int .u32 i.draw, .int .u8 i.p.c.toNat, .int .u8 i.p.i.toNat, .string i.p.d, .int .u8 i.code, .slice A n c], .int .u8 ev, .func (.func 67) #[] #[.pointer (some ⟨bx, 0, none⟩)]] w (OutQ K g a q (fol i ev { s with p := R.p s.p dr (gL i.p.d.toList) }).1 (fol i ev { s with p := R.p s.p dr (gL i.p.d.toList) }).2 (told (evA s.x ev)) 0 false w) := by
  obtain ⟨W, hW, HW⟩ := box_io w i A n c
  have HG := Lib.hid h.old
  have H := Lib.hid (h.callee HW.out.2.2)
  have M : Hid (Moves (My g a q) w W) := Moves.of_below HW.out.2.2
  have HI := Lib.hid HW.out.1
  have HZ := Lib.hid HW.out.2.1
  have k5 : W.cell? ⟨g, 5, none⟩ = some (.bool true) := by rw [← hn]; exact H.out.c 5
  have k6 : W.cell? ⟨g, 6, none⟩ = some (.int .u8 s.last) := H.out.c 6
  have k1 : W.cell? ⟨w.heap.size, 2, none⟩ = some (.int .u8 i.p.i.toNat) := HI.out.at_ 2
  have hne : ((i.p.i.toNat : Int) != (s.last : Int)) = false := by rw [hi]; simp
  have HGt := Lib.hid (fun W => get_at i.p.d 0 W hE)
  have Hl := Lib.hid (gL_le i.p.d.toList)
  have HTk := Lib.hid (fun w h => taker_same K g a q s w h hs)
  have HKp := Lib.hid hok.pol
  have HA := Lib.hid (ha.moves M.out)
  have HAA : Hid (∀ k, Ans (W.drewN k) g a q A n i.ans) := fun k => HA.out.moves ((Moves.refl (My g a q) W).drewN k)
  have HF : Hid (∀ W, SAt K W g a q { s with p := R.p s.p dr (gL i.p.d.toList) } → Ans W g a q A n i.ans → Calls Tryz.prog 37 #[.pointer (some ⟨g, 0, none⟩), .int .u8 ev, .agg #[.int .u32 i.draw, .int .u8 i.p.c.toNat, .int .u8 i.p.i.toNat, .string i.p.d, .int .u8 i.code, .slice A n c]] W (OutQ K g a q (fol i ev { s with p := R.p s.p dr (gL i.p.d.toList) }).1 (fol i ev { s with p := R.p s.p dr (gL i.p.d.toList) }).2 (told (evA s.x ev)) 0 false W)) := fun W h1 h2 =>
    follow_any K g a q { s with p := R.p s.p dr (gL i.p.d.toList) } ev i A n c W h1 hok.inv h2 he (does_no h4 ⟨evX_inv hok.inv ev, R.ok _ _ _ hok.pol, hok.m0, hok.m1, hok.c, hok.l⟩ hc)
  generalize told (evA s.x ev) = TT at *
  generalize fol i ev { s with p := R.p s.p dr (gL i.p.d.toList) } = r at *
  obtain ⟨s', l⟩ := r
  simp only at HF ⊢
  have HC : Hid (∀ w (B : Option Addr) d', K.At w q s.p → Opts w w.heap.size B (gL i.p.d.toList).length (gL i.p.d.toList) → (B = none → d' = 0) → w.cell? ⟨bx, 0, none⟩ = some (.int .u32 i.draw) → Calls Tryz.prog 67 #[.iface K.ty (.agg #[.pointer (some ⟨q, 0, none⟩)]), .slice B (gL i.p.d.toList).length d', .pointer (some ⟨bx, 0, none⟩)] w (fun e w' => e = .returned (.bool true) ∧ K.At w' q (R.p s.p dr (gL i.p.d.toList)) ∧ Moves (fun k => k = q) w w')) := fun w B d' h1 h2 h3 h4 => by
    have h := nak_fn K R q s.p w dr (gL i.p.d.toList) B d' bx h1 hok.pol h2 h3 (gL_le _) (by rw [← hdr]; exact h4)
    unfold TkQ at h
    rw [ht] at h
    exact h
  have HXc : Hid (∀ w1, Moves (My g a q) w w1 → w1.cell? ⟨bx, 0, none⟩ = some (.int .u32 i.draw)) := fun w1 hm => (hm.cell (p := ⟨bx, 0, none⟩) (World.block_lt_of_cell? w _ hbx) hbm).trans hbx
  clear ht hbx hbm hdr
  have HxA : Hid (∀ k, SAt K (W.drewN k) g a q s) := fun k => H.out.moves ((Moves.refl (fun _ => False) W).drewN k) (fun _ _ x => x)
  have MxA : Hid (∀ k, Moves (My g a q) w (W.drewN k)) := fun k => M.out.drewN k
  have HZA : Hid (∀ k, Blk (W.drewN k) (w.heap.size + 1) zoutV 51) := fun k => HZ.out.drewN k
  have HIA : Hid (∀ k, Blk (W.drewN k) w.heap.size (inC i A n c) 88) := fun k => HI.out.drewN k
  clear h HW hn hi hE hok hs ha hc he h4 HA
  go_enter Tryz.func66, Tryz.ntmps66
  go_wp2_with fail
  (try clear hW)
  go_quiet (fail)
  have HAx := Lib.hid (HAA.out nq)
  have H0 := Lib.hid (HxA.out nq)
  have M0 := Lib.hid (MxA.out nq)
  have Z0 := Lib.hid (HZA.out nq)
  have HIx := Lib.hid (HIA.out nq)
  generalize W.drewN nq = U at *
  clear HxA MxA HZA HIA
  clear HAA
  have d3 : U.cell? ⟨w.heap.size, 3, none⟩ = some (.string i.p.d) := HIx.out.at_ 3
  go_wp2_with fail
  refine (HGt.out U).mono ?_
  rintro e w1 ⟨B, db, N, rfl, hO, hB0, hb1⟩
  have H1 := Lib.hid (H0.out.callee hb1)
  have M1 := Lib.hid (M0.out.trans (Moves.of_below (S := My g a q) hb1) fun _ _ x => x)
  have HZ1 := Lib.hid (Z0.out.callee hb1)
  have HI1 := Lib.hid (HIx.out.callee hb1)
  have HA1 := Lib.hid (HAx.out.moves (Moves.of_below (S := My g a q) hb1))
  have HO := Lib.hid hO
  have HB0 := Lib.hid hB0
  clear hO hB0 hb1 d3 HGt H0 M0 Z0 HIx
  have d0 : w1.cell? ⟨w.heap.size, 0, none⟩ = some (.int .u32 i.draw) := HI1.out.at_ 0
  go_wp2_with fail
  refine (HTk.out _ H1.out).mono ?_
  rintro e w2 ⟨rfl, rfl⟩
  go_wp2_with fail
  refine (HC.out _ _ _ H1.out.2.2.1 HO.out HB0.out (HXc.out _ M1.out)).mono ?_
  rintro e w3 ⟨rfl, hp3, hm3⟩
  have Hx := Lib.hid (H1.out.pol hm3 hp3)
  have Mx := Lib.hid (M1.out.trans (my_q hm3) fun _ _ x => x)
  have no : Hid (∀ k, w.heap.size ≤ k → ¬ My g a q k) := fun k hk e => by have := HG.out k e; omega
  have HZx := Lib.hid (HZ1.out.moves (my_q (g := g) (a := a) hm3) (no.out _ (Nat.le_succ _)))
  have HIx := Lib.hid (HI1.out.moves (my_q (g := g) (a := a) hm3) (no.out _ (Nat.le_refl _)))
  have HA3 := Lib.hid (HA1.out.moves (my_q hm3))
  clear hp3 hm3 d0
  have d0 : w3.cell? ⟨w.heap.size, 0, none⟩ = some (.int .u32 i.draw) := HIx.out.at_ 0
  have d1 : w3.cell? ⟨w.heap.size, 1, none⟩ = some (.int .u8 i.p.c.toNat) := HIx.out.at_ 1
  have d2 : w3.cell? ⟨w.heap.size, 2, none⟩ = some (.int .u8 i.p.i.toNat) := HIx.out.at_ 2
  have d3 : w3.cell? ⟨w.heap.size, 3, none⟩ = some (.string i.p.d) := HIx.out.at_ 3
  have d4 : w3.cell? ⟨w.heap.size, 4, none⟩ = some (.int .u8 i.code) := HIx.out.at_ 4
  have d5 : w3.cell? ⟨w.heap.size, 5, none⟩ = some (.slice A n c) := HIx.out.at_ 5
  go_wp2_with fail
  refine (HF.out _ Hx.out HA3.out).mono ?_
  rintro e w4 ⟨R4, rc4, rfl, hr, h4, hm4⟩
  have H4 := Lib.hid h4
  have HR4 := Lib.hid (own_mono hr Mx.out.size)
  have HZ4 := Lib.hid (HZx.out.moves hm4 (no.out _ (Nat.le_succ _)))
  have M4 := Lib.hid (Mx.out.trans hm4 fun _ _ x => x)
  clear h4 hr hm4 d0 d1 d2 d3 d4 d5 HF
  obtain ⟨z0, z1, z2, z3, y0, y1, y2, y3⟩ := out_facts HZ4.out
  go_wp2
  (try simp only [Exit.inBlock, Exit.then])
  refine bodyPost_ret (results_cell_row rfl _ _ (w.heap.size + 1) _ _ _ _ rfl (out_put HZ4.out (.slice R4 l.length rc4) TT 0 false).1 Tryz.underlying51 rfl (by kernel_rfl)) rfl ?_
  exact out_end1 HZ4.out HR4.out H4.out M4.out (Nat.le_succ _) HG.out
end Go.Proofs.YtpppggicihfbgaaGreat.Neg

/- What each kind of packet comes to. Written by gen/neg_v.py. -/
namespace Go.Proofs.YtpppggicihfbgaaGreat.Neg
open Go.RowKit Go.Proofs.YtpppggicihfbgaaGreat.Oct Go.Proofs.YtpppggicihfbgaaGreat.Row Go.Proofs.YtpppggicihfbgaaGreat.Mem Go.Proofs.YtpppggicihfbgaaGreat.Opt Go.Proofs.YtpppggicihfbgaaGreat.Fsm
open Go.Proofs.YtpppggicihfbgaaGreat.Aut (Au Aut Inv evA evE evX state_any)

set_option maxHeartbeats 8000000 in
set_option maxRecDepth 100000 in
theorem get_ack (K : Kd) (g a q : Nat) (s : Sd K) (i : In) (A : Option Addr) (n c : Nat) (w : World) (h : SAt K w g a q s) (ha : Ans w g a q A n i.ans) (s' : Sd K) (l : List Pk) (T P : Int) (b : Bool)
    (hc : ∀ W, SAt K W g a q s → Ans W g a q A n i.ans → Calls Tryz.prog 66 #[.pointer (some ⟨g, 0, none⟩), .agg #[.int .u32 i.draw, .int .u8 i.p.c.toNat, .int .u8 i.p.i.toNat, .string i.p.d, .int .u8 i.code, .slice A n c], .int .u8 8, .func (.methodOf 70 "Acked") #[] #[]] W (OutQ K g a q s' l T P b W)) :
    Calls Tryz.prog 47 #[.pointer (some ⟨g, 0, none⟩), .agg #[.int .u32 i.draw, .int .u8 i.p.c.toNat, .int .u8 i.p.i.toNat, .string i.p.d, .int .u8 i.code, .slice A n c]] w (OutQ K g a q s' l T P b w) := by
  obtain ⟨W, hW, HW⟩ := box_io w i A n c
  have HG := Lib.hid h.old
  have H := Lib.hid (h.callee HW.out.2.2)
  have M : Hid (Moves (My g a q) w W) := Moves.of_below HW.out.2.2
  have HA := Lib.hid (ha.moves M.out)
  have HI := Lib.hid HW.out.1
  have HZ := Lib.hid HW.out.2.1
  have no : Hid (∀ k, w.heap.size ≤ k → ¬ My g a q k) := fun k hk e => by have := HG.out k e; omega
  have HC := Lib.hid hc
  have d0 : W.cell? ⟨w.heap.size, 0, none⟩ = some (.int .u32 i.draw) := HI.out.at_ 0
  have d1 : W.cell? ⟨w.heap.size, 1, none⟩ = some (.int .u8 i.p.c.toNat) := HI.out.at_ 1
  have d2 : W.cell? ⟨w.heap.size, 2, none⟩ = some (.int .u8 i.p.i.toNat) := HI.out.at_ 2
  have d3 : W.cell? ⟨w.heap.size, 3, none⟩ = some (.string i.p.d) := HI.out.at_ 3
  have d4 : W.cell? ⟨w.heap.size, 4, none⟩ = some (.int .u8 i.code) := HI.out.at_ 4
  have d5 : W.cell? ⟨w.heap.size, 5, none⟩ = some (.slice A n c) := HI.out.at_ 5
  clear h HW ha hc
  go_enter Tryz.func47, Tryz.ntmps47
  go_wp2_with fail
  refine (HC.out _ H.out HA.out).mono ?_
  rintro e w1 ⟨R, rc, rfl, hr, h1, hm1⟩
  have H1 := Lib.hid h1
  have M1 := Lib.hid (M.out.trans hm1 fun _ _ x => x)
  have HR := Lib.hid (own_mono hr M.out.size)
  have HZ1 := Lib.hid (HZ.out.moves hm1 (no.out _ (Nat.le_succ _)))
  clear hr h1 hm1 d0 d1 d2 d3 d4 d5
  obtain ⟨z0, z1, z2, z3, y0, y1, y2, y3⟩ := out_facts HZ1.out
  go_wp2
  (try simp only [Exit.inBlock, Exit.then])
  refine bodyPost_ret (results_cell_row rfl _ _ (w.heap.size + 1) _ _ _ _ rfl (out_put HZ1.out (.slice R l.length rc) T P b).1 Tryz.underlying51 rfl (by kernel_rfl)) rfl ?_
  exact out_end1 HZ1.out HR.out H1.out M1.out (Nat.le_succ _) HG.out
set_option maxHeartbeats 8000000 in
set_option maxRecDepth 100000 in
theorem get_nak (K : Kd) (g a q : Nat) (s : Sd K) (i : In) (A : Option Addr) (n c : Nat) (w : World) (h : SAt K w g a q s) (ha : Ans w g a q A n i.ans) (s' : Sd K) (l : List Pk) (T P : Int) (b : Bool)
    (hc : ∀ W bx, SAt K W g a q s → Ans W g a q A n i.ans → W.cell? ⟨bx, 0, none⟩ = some (.int .u32 i.draw) → ¬ My g a q bx → Calls Tryz.prog 66 #[.pointer (some ⟨g, 0, none⟩), .agg #[.int .u32 i.draw, .int .u8 i.p.c.toNat, .int .u8 i.p.i.toNat, .string i.p.d, .int .u8 i.code, .slice A n c], .int .u8 9, .func (.func 67) #[] #[.pointer (some ⟨bx, 0, none⟩)]] W (OutQ K g a q s' l T P b W)) :
    Calls Tryz.prog 48 #[.pointer (some ⟨g, 0, none⟩), .agg #[.int .u32 i.draw, .int .u8 i.p.c.toNat, .int .u8 i.p.i.toNat, .string i.p.d, .int .u8 i.code, .slice A n c]] w (OutQ K g a q s' l T P b w) := by
  obtain ⟨W, hW, HW⟩ := box_io w i A n c
  have HG := Lib.hid h.old
  have H := Lib.hid (h.callee HW.out.2.2)
  have M : Hid (Moves (My g a q) w W) := Moves.of_below HW.out.2.2
  have HA := Lib.hid (ha.moves M.out)
  have HI := Lib.hid HW.out.1
  have HZ := Lib.hid HW.out.2.1
  have no : Hid (∀ k, w.heap.size ≤ k → ¬ My g a q k) := fun k hk e => by have := HG.out k e; omega
  have HC := Lib.hid hc
  have d0 : W.cell? ⟨w.heap.size, 0, none⟩ = some (.int .u32 i.draw) := HI.out.at_ 0
  have d1 : W.cell? ⟨w.heap.size, 1, none⟩ = some (.int .u8 i.p.c.toNat) := HI.out.at_ 1
  have d2 : W.cell? ⟨w.heap.size, 2, none⟩ = some (.int .u8 i.p.i.toNat) := HI.out.at_ 2
  have d3 : W.cell? ⟨w.heap.size, 3, none⟩ = some (.string i.p.d) := HI.out.at_ 3
  have d4 : W.cell? ⟨w.heap.size, 4, none⟩ = some (.int .u8 i.code) := HI.out.at_ 4
  have d5 : W.cell? ⟨w.heap.size, 5, none⟩ = some (.slice A n c) := HI.out.at_ 5
  have hx0 : Hid (W.cell? ⟨w.heap.size, 0, none⟩ = some (.int .u32 i.draw)) := HI.out.at_ 0
  clear h HW ha hc
  go_enter Tryz.func48, Tryz.ntmps48
  go_wp2_with fail
  refine (HC.out _ _ H.out HA.out hx0.out (no.out _ (Nat.le_refl _))).mono ?_
  rintro e w1 ⟨R, rc, rfl, hr, h1, hm1⟩
  have H1 := Lib.hid h1
  have M1 := Lib.hid (M.out.trans hm1 fun _ _ x => x)
  have HR := Lib.hid (own_mono hr M.out.size)
  have HZ1 := Lib.hid (HZ.out.moves hm1 (no.out _ (Nat.le_succ _)))
  clear hr h1 hm1 d0 d1 d2 d3 d4 d5
  obtain ⟨z0, z1, z2, z3, y0, y1, y2, y3⟩ := out_facts HZ1.out
  go_wp2
  (try simp only [Exit.inBlock, Exit.then])
  refine bodyPost_ret (results_cell_row rfl _ _ (w.heap.size + 1) _ _ _ _ rfl (out_put HZ1.out (.slice R l.length rc) T P b).1 Tryz.underlying51 rfl (by kernel_rfl)) rfl ?_
  exact out_end1 HZ1.out HR.out H1.out M1.out (Nat.le_succ _) HG.out
end Go.Proofs.YtpppggicihfbgaaGreat.Neg

/- A side that asked, and what it makes of a request, and of a reply. -/
namespace Go.Proofs.YtpppggicihfbgaaGreat.Neg
open Go.RowKit Go.Proofs.YtpppggicihfbgaaGreat.Oct Go.Proofs.YtpppggicihfbgaaGreat.Row Go.Proofs.YtpppggicihfbgaaGreat.Mem Go.Proofs.YtpppggicihfbgaaGreat.Opt Go.Proofs.YtpppggicihfbgaaGreat.Fsm
open Go.Proofs.YtpppggicihfbgaaGreat.Aut (Au Aut Inv evA evE evX)

structure Sx {K : Kd} (s : Sd K) (st : Nat) (p : K.α) (n : Nat) : Prop where
  hst : s.x.s = st
  ok : Ok s
  hp : s.p = p
  hn : s.cnt = n
  hask : s.asked = true
  hla : s.last = n
def GtP (K : Kd) (s' : Sd K) (l : List Pk) (g a q : Nat) (w : World) (e : Ending) (w' : World) : Prop := ∃ T P b, PakQ K g a q s' l T P b w e w'
def Gets (K : Kd) (s s' : Sd K) (p : Pk) (l : List Pk) (d : UInt32) : Prop := ∀ g a q w, SAt K w g a q s →
  Calls Tryz.prog 17 #[.pointer (some ⟨g, 0, none⟩), .agg #[.int .u8 p.c.toNat, .int .u8 p.i.toNat, .string p.d], .int .u32 d.toNat] w (GtP K s' l g a q w)

theorem tabP : (nE 6 6 = 0 ∧ nA 6 6 = 128 ∧ nN 6 6 = 8) ∧ (nE 6 7 = 0 ∧ nA 6 7 = 256 ∧ nN 6 7 = 6) ∧ (nE 7 6 = 0 ∧ nA 7 6 = 129 ∧ nN 7 6 = 9) ∧ (nE 7 7 = 0 ∧ nA 7 7 = 256 ∧ nN 7 7 = 7) := by decide +kernel
theorem tabQ : (nE 6 8 = 0 ∧ nA 6 8 = 16 ∧ nN 6 8 = 7) ∧ (nE 8 8 = 0 ∧ nA 8 8 = 17 ∧ nN 8 8 = 9) ∧ (nE 8 9 = 0 ∧ nA 8 9 = 80 ∧ nN 8 9 = 8) := by decide +kernel
theorem bits128 : bitsTo 128 13 = [128] := by decide
theorem bits129 : bitsTo 129 13 = [1, 128] := by decide
theorem bits256 : bitsTo 256 13 = [256] := by decide
theorem bits16 : bitsTo 16 13 = [16] := by decide
theorem bits17 : bitsTo 17 13 = [1, 16] := by decide
theorem ev_at {x : Au} {st ev A N : Nat} (hs : x.s = st) (h1 : ev ≠ 4) (h2 : ev ≠ 5) (hE : nE st ev = 0) (hA : nA st ev = A) (hN : nN st ev = N) (h4 : has A 4096 = false) :
    evE x ev = 0 ∧ evA x ev = A ∧ (evX x ev).s = N ∧ has (evA x ev) 4096 = false := by
  subst hs
  have hn : ¬ (ev = 4 ∨ ev = 5) := by omega
  unfold evE evA evX
  rw [if_neg hn, if_neg hn, if_neg hn, hA]
  refine ⟨hE, rfl, ?_, h4⟩
  unfold Aut.come
  rw [if_pos hE]
  exact hN
theorem fol_ans {K : Kd} (i : In) (ev : Nat) (s : Sd K) (h : bitsTo (evA s.x ev) 13 = [128] ∨ bitsTo (evA s.x ev) 13 = [1, 128] ∨ bitsTo (evA s.x ev) 13 = [256]) (hp : pE i.ans = 0) :
    fol i ev s = ({ s with x := evX s.x ev }, [⟨UInt8.ofNat i.code, i.p.i, bOf (enc i.ans)⟩]) := by
  unfold fol perL
  rcases h with h | h | h <;> rw [h]
  · show (_, [] ++ (if pE i.ans = 0 then some _ else none).toList) = _
    rw [if_pos hp]; rfl
  · show (_, [] ++ (if pE i.ans = 0 then some _ else none).toList) = _
    rw [if_pos hp]; rfl
  · show (_, [] ++ (if pE i.ans = 0 then some _ else none).toList) = _
    rw [if_pos hp]; rfl
theorem fol_none {K : Kd} (i : In) (ev : Nat) (s : Sd K) (h : bitsTo (evA s.x ev) 13 = [16] ∨ bitsTo (evA s.x ev) 13 = [1, 16]) : fol i ev s = ({ s with x := evX s.x ev }, []) := by
  unfold fol perL
  rcases h with h | h <;> rw [h] <;> rfl
theorem fol_ask {K : Kd} (i : In) (ev : Nat) (s : Sd K) (h : bitsTo (evA s.x ev) 13 = [16, 64]) : fol i ev s = (asks { s with x := evX s.x ev }, [⟨1, UInt8.ofNat ((s.cnt + 1) % 256), bOf (enc (K.req s.p))⟩]) := by
  unfold fol perL
  rw [h]; rfl
theorem pk_one {K : Kd} (hkn : ∀ c, 1 ≤ c → c ≤ 4 → Pkt.known K.proto c = true) (s : Sd K) (hs : s.x.s ≠ 0) (hs1 : s.x.s ≠ 1) (p : Pk) (d : UInt32) (h1 : 1 ≤ p.c.toNat) (h2 : p.c.toNat ≤ 4) (s' : Sd K) (l : List Pk) (T P : Int) (b : Bool) (f : FuncId) (hf : fE p.c.toNat = f)
    (hget : ∀ g a q W, SAt K W g a q s → Ans W g a q none 0 [] → Calls Tryz.prog f #[.pointer (some ⟨g, 0, none⟩), .agg #[.int .u32 (d.toNat : Nat), .int .u8 p.c.toNat, .int .u8 p.i.toNat, .string p.d, .int .u8 (0 : Nat), .slice none 0 0]] W (OutQ K g a q s' l T P b W)) :
    Gets K s s' p l d := by
  subst hf
  intro g a q w h
  exact (packet_any K g a q s s' p d l T P b w h (fun W hW => receive_known K g a q s ⟨d.toNat, p, 0, []⟩ none 0 0 W hW hs hs1 (ans_nil W g a q) (hkn _ h1 h2) h1 (Nat.le_trans h2 (by decide)) s' l T P b (fun U hU hA => hget g a q U hU hA))).mono fun e w' hq => ⟨T, P, b, hq⟩
theorem got_of {l : List Opt} (h : pE l = 0) : gE (bOf (enc l)).toList = 0 ∧ gL (bOf (enc l)).toList = l := by
  rw [toList_bOf, ← put_yes h]
  unfold gE gL
  rw [got_enc h]
  exact ⟨rfl, rfl⟩
theorem req_step {K : Kd} (R : Kr K) (hkn : ∀ c, 1 ≤ c → c ≤ 4 → Pkt.known K.proto c = true) {s : Sd K} {st : Nat} {p : K.α} {n : Nat} (h : Sx s st p n) (hs : st = 6 ∨ st = 7) (hJ : R.okJ p) (i : UInt8) (l : List Opt) (hl : pE l = 0) (ha : pE (R.jA p l) = 0) :
    ∃ s', (∀ d, Gets K s s' ⟨1, i, bOf (enc l)⟩ [⟨UInt8.ofNat (R.jC p l), i, bOf (enc (R.jA p l))⟩] d) ∧ Sx s' (if R.jC p l = 2 then (if st = 6 then 8 else 9) else st) (R.jP p l) n := by
  obtain ⟨hst, hok, rfl, hn, has', hla⟩ := h
  obtain ⟨⟨a1, a2, a3⟩, ⟨b1, b2, b3⟩, ⟨c1, c2, c3⟩, d1, d2, d3⟩ := tabP
  have hg := got_of hl
  have hr : ∀ d, ren 6 d s = s := fun d => by
    unfold ren anew
    rw [hst]
    rcases hs with rfl | rfl <;> rfl
  have ev6 : evE s.x 6 = 0 ∧ evA s.x 6 = (if st = 6 then 128 else 129) ∧ (evX s.x 6).s = (if st = 6 then 8 else 9) ∧ has (evA s.x 6) 4096 = false := by
    rcases hs with rfl | rfl
    · exact ev_at hst (by decide) (by decide) a1 a2 a3 (by decide)
    · exact ev_at hst (by decide) (by decide) c1 c2 c3 (by decide)
  have ev7 : evE s.x 7 = 0 ∧ evA s.x 7 = 256 ∧ (evX s.x 7).s = st ∧ has (evA s.x 7) 4096 = false := by
    rcases hs with rfl | rfl
    · exact ev_at hst (by decide) (by decide) b1 b2 b3 (by decide)
    · exact ev_at hst (by decide) (by decide) d1 d2 d3 (by decide)
  obtain ⟨ev, hev⟩ : ∃ ev, ev = jEv (R.jC s.p l) := ⟨_, rfl⟩
  have hev67 : ev = 6 ∨ ev = 7 := by rw [hev]; unfold jEv; split <;> simp
  refine ⟨{ s with x := evX s.x ev, p := R.jP s.p l }, fun d => ?_, ?_⟩
  · have hf : fol (jIn R ⟨d.toNat, ⟨1, i, bOf (enc l)⟩, 0, []⟩ d l s) ev (jSd R d l s) = ({ s with x := evX s.x ev, p := R.jP s.p l }, [⟨UInt8.ofNat (R.jC s.p l), i, bOf (enc (R.jA s.p l))⟩]) := by
      unfold jIn jSd
      rw [hr d]
      have := fol_ans (K := K) (⟨d.toNat, ⟨1, i, bOf (enc l)⟩, R.jC s.p l, R.jA s.p l⟩ : In) ev { s with p := R.jP s.p l } (by
        show bitsTo (evA s.x ev) 13 = _ ∨ bitsTo (evA s.x ev) 13 = _ ∨ bitsTo (evA s.x ev) 13 = _
        rcases hev67 with rfl | rfl
        · rw [ev6.2.1]
          rcases hs with rfl | rfl
          · exact .inl bits128
          · exact .inr (.inl bits129)
        · rw [ev7.2.1]
          exact .inr (.inr bits256)) ha
      exact this
    have hg1 := hg.1
    have hg2 := hg.2
    refine pk_one hkn s (by omega) (by omega) ⟨1, i, bOf (enc l)⟩ d (Nat.le_refl 1) (by decide : (1 : Nat) ≤ 4) _ _ (told (evA s.x ev)) 0 false 46 rfl (fun g a q W hW hA => ?_)
    have := req_judged K R g a q s ⟨d.toNat, ⟨1, i, bOf (enc l)⟩, 0, []⟩ d rfl none 0 0 W hW hok hg1 (by omega) (by omega) (by omega) (by rw [hr d]; exact hJ) (fun e he => by
      rcases he with rfl | rfl
      · exact ⟨ev6.1, ev6.2.2.2⟩
      · exact ⟨ev7.1, ev7.2.2.2⟩) ev (by show ev = jEv (R.jC (ren 6 d s).p (gL (bOf (enc l)).toList)); rw [hr d, hg2]; exact hev)
    rw [show gL (⟨d.toNat, ⟨1, i, bOf (enc l)⟩, 0, []⟩ : In).p.d.toList = l from hg2, hf] at this
    exact this
  · refine ⟨?_, ⟨evX_inv hok.inv ev, R.jok _ _ hok.pol, hok.m0, hok.m1, hok.c, hok.l⟩, rfl, hn, has', hla⟩
    show (evX s.x ev).s = _
    rw [hev]
    unfold jEv
    by_cases h2 : R.jC s.p l = 2
    · rw [if_pos h2, if_pos h2]; exact ev6.2.2.1
    · rw [if_neg h2, if_neg h2]; exact ev7.2.2.1
theorem ack_step {K : Kd} (R : Rp K "Acked") (hkn : ∀ c, 1 ≤ c → c ≤ 4 → Pkt.known K.proto c = true) {s : Sd K} {st : Nat} {p : K.α} {n : Nat} (h : Sx s st p n) (hs : st = 6 ∨ st = 8) (i : UInt8) (hi : i.toNat = n) (l : List Opt) (hl : pE l = 0) (hb : R.b p l = true) :
    ∃ s', (∀ d, Gets K s s' ⟨2, i, bOf (enc l)⟩ [] d) ∧ Sx s' (st + 1) (R.p p l) n := by
  obtain ⟨hst, hok, rfl, hn, has', hla⟩ := h
  obtain ⟨⟨a1, a2, a3⟩, ⟨b1, b2, b3⟩, _⟩ := tabQ
  have hg := got_of hl
  have ev8 : evE s.x 8 = 0 ∧ evA s.x 8 = (if st = 6 then 16 else 17) ∧ (evX s.x 8).s = st + 1 ∧ has (evA s.x 8) 4096 = false := by
    rcases hs with rfl | rfl
    · exact ev_at hst (by decide) (by decide) a1 a2 a3 (by decide)
    · exact ev_at hst (by decide) (by decide) b1 b2 b3 (by decide)
  refine ⟨{ s with x := evX s.x 8, p := R.p s.p l }, fun d => ?_, ?_⟩
  · have hf : fol (⟨d.toNat, ⟨2, i, bOf (enc l)⟩, 0, []⟩ : In) 8 { s with p := R.p s.p l } = ({ s with x := evX s.x 8, p := R.p s.p l }, []) :=
      fol_none _ 8 { s with p := R.p s.p l } (by
        show bitsTo (evA s.x 8) 13 = _ ∨ bitsTo (evA s.x 8) 13 = _
        rw [ev8.2.1]
        rcases hs with rfl | rfl
        · exact .inl bits16
        · exact .inr bits17)
    have hg1 := hg.1
    have hg2 := hg.2
    refine pk_one hkn s (by omega) (by omega) ⟨2, i, bOf (enc l)⟩ d (by decide : (1 : Nat) ≤ 2) (by decide : (2 : Nat) ≤ 4) _ _ (told (evA s.x 8)) 0 false 47 rfl (fun g a q W hW hA => ?_)
    refine get_ack K g a q s ⟨d.toNat, ⟨2, i, bOf (enc l)⟩, 0, []⟩ none 0 0 W hW hA _ _ _ _ _ (fun U hU hA2 => ?_)
    have := reply_take K "Acked" R g a q s ⟨d.toNat, ⟨2, i, bOf (enc l)⟩, 0, []⟩ none 0 0 8 U hU hok (by omega) has' (by show i.toNat = s.last; rw [hi, hla]) hg1 (by show R.b s.p (gL (bOf (enc l)).toList) = true; rw [hg2]; exact hb) hA2 (by decide : (0 : Nat) < 256) ev8.1 ev8.2.2.2
    rw [show gL (⟨d.toNat, ⟨2, i, bOf (enc l)⟩, 0, []⟩ : In).p.d.toList = l from hg2, hf] at this
    exact this
  · exact ⟨ev8.2.2.1, ⟨evX_inv hok.inv 8, R.ok _ _ hok.pol, hok.m0, hok.m1, hok.c, hok.l⟩, rfl, hn, has', hla⟩
end Go.Proofs.YtpppggicihfbgaaGreat.Neg
