/- Put together: NegK, NegL, NegM. -/
import Derived.Test.YtgefodpnhifmdaaGreatGNegF
import Derived.Test.YtgefodpnhifmdaaGreatNegI
import Derived.Test.YtgefodpnhifmdaaGreatGNegIp

/- What the chapter's examples come to. -/
namespace Go.Proofs.YtgefodpnhifmdaaGreat.Neg
open Go.RowKit Go.Proofs.YtgefodpnhifmdaaGreat.Oct Go.Proofs.YtgefodpnhifmdaaGreat.Row Go.Proofs.YtgefodpnhifmdaaGreat.Mem Go.Proofs.YtgefodpnhifmdaaGreat.Opt Go.Proofs.YtgefodpnhifmdaaGreat.Fsm
open Go.Proofs.YtgefodpnhifmdaaGreat.Aut (Au Aut Inv evA evE evX tk tkS tev)

/-! ### a Terminate-Request -/
set_option maxHeartbeats 4000000 in
set_option maxRecDepth 100000 in
theorem term_get (K : Kd) (g a q : Nat) (s : Sd K) (i : In) (A : Option Addr) (n c : Nat) (w : World) (h : SAt K w g a q s) (hok : Ok s) (ha : Ans w g a q A n i.ans) (hc : i.code < 256) (he : evE s.x 10 = 0) (h4 : has (evA s.x 10) 4096 = false) :
    Calls Tryz.prog 41 #[.pointer (some ⟨g, 0, none⟩), .agg #[.int .u32 i.draw, .int .u8 i.p.c.toNat, .int .u8 i.p.i.toNat, .string i.p.d, .int .u8 i.code, .slice A n c]] w (OutQ K g a q (fol i 10 s).1 (fol i 10 s).2 (told (evA s.x 10)) 0 false w) := by
  obtain ⟨W, hW, HW⟩ := box_io w i A n c
  have HF : Hid (∀ W, SAt K W g a q s → Ans W g a q A n i.ans → Calls Tryz.prog 30 #[.pointer (some ⟨g, 0, none⟩), .int .u8 10, .agg #[.int .u32 i.draw, .int .u8 i.p.c.toNat, .int .u8 i.p.i.toNat, .string i.p.d, .int .u8 i.code, .slice A n c]] W (OutQ K g a q (fol i 10 s).1 (fol i 10 s).2 (told (evA s.x 10)) 0 false W)) := fun W h1 h2 => follow_any K g a q s 10 i A n c W h1 hok.inv h2 he (does_no h4 ⟨evX_inv hok.inv 10, hok.pol, hok.m0, hok.m1, hok.c, hok.l⟩ hc)
  have HG := Lib.hid h.old
  have H := Lib.hid (h.callee HW.out.2.2)
  have M : Hid (Moves (My g a q) w W) := Moves.of_below HW.out.2.2
  have HA := Lib.hid (ha.moves M.out)
  have HI := Lib.hid HW.out.1
  have HZ := Lib.hid HW.out.2.1
  have d0 : W.cell? ⟨w.heap.size, 0, none⟩ = some (.int .u32 i.draw) := HI.out.at_ 0
  have d1 : W.cell? ⟨w.heap.size, 1, none⟩ = some (.int .u8 i.p.c.toNat) := HI.out.at_ 1
  have d2 : W.cell? ⟨w.heap.size, 2, none⟩ = some (.int .u8 i.p.i.toNat) := HI.out.at_ 2
  have d3 : W.cell? ⟨w.heap.size, 3, none⟩ = some (.string i.p.d) := HI.out.at_ 3
  have d4 : W.cell? ⟨w.heap.size, 4, none⟩ = some (.int .u8 i.code) := HI.out.at_ 4
  have d5 : W.cell? ⟨w.heap.size, 5, none⟩ = some (.slice A n c) := HI.out.at_ 5
  clear h hok ha hc he h4 HW
  generalize told (evA s.x 10) = T at *
  generalize fol i 10 s = r at *
  obtain ⟨s', l⟩ := r
  simp only at HF ⊢
  go_enter Tryz.func41, Tryz.ntmps41
  go_wp2_with fail
  refine (HF.out _ H.out HA.out).mono ?_
  rintro e w1 ⟨R, rc, rfl, hr, h1, hm1⟩
  have H1 := Lib.hid h1
  have M1 := Lib.hid (M.out.trans hm1 fun _ _ x => x)
  have HR := Lib.hid (own_mono hr M.out.size)
  have HZ1 := Lib.hid (HZ.out.moves hm1 (fun e => by have := HG.out _ e; omega))
  clear h1 hm1 hr HF d0 d1 d2 d3 d4 d5
  obtain ⟨z0, z1, z2, z3, y0, y1, y2, y3⟩ := out_facts HZ1.out
  go_wp2
  (try simp only [Exit.inBlock, Exit.then])
  refine bodyPost_ret (results_cell_row rfl _ _ (w.heap.size + 1) _ _ _ _ rfl (out_put HZ1.out (.slice R l.length rc) T 0 false).1 Tryz.underlying46 rfl (by kernel_rfl)) rfl ?_
  exact out_end1 HZ1.out HR.out H1.out M1.out (Nat.le_succ _) HG.out
theorem ev6 (r mc mt c l ev set : Nat) (ha : nA 6 ev = set) (he : nE 6 ev = 0) (hn : nN 6 ev = 6) (h4 : ev ≠ 4) (h5 : ev ≠ 5) (h1 : has set 16 = false) (h2 : has set 32 = false) (h3 : has set 64 = false) (h9 : has set 512 = false) :
    evA (x6 r mc mt c l) ev = set ∧ evE (x6 r mc mt c l) ev = 0 ∧ evX (x6 r mc mt c l) ev = x6 r mc mt c l := by
  have h : ¬ (ev = 4 ∨ ev = 5) := by omega
  unfold evA evE evX
  rw [if_neg h, if_neg h, if_neg h]
  refine ⟨ha, he, ?_⟩
  unfold Aut.come
  show (if nE 6 ev = 0 then Aut.fin (nN 6 ev) (Aut.acts (nA 6 ev) (x6 r mc mt c l)) else _) = _
  rw [if_pos he, ha, hn, Aut.acts_is, h1, h2, h3, h9]
  rfl
theorem s6_ok {K : Kd} {r mc mt c l n : Nat} {p : K.α} (h : Aut.may r mc mt = true) (hc : c ≤ mc) (hl : l ≤ r) (h0 : 0 < l) (hn : n < 256) (hp : K.ok p) : Ok (s6 K r mc mt c l n p) :=
  ⟨x6_inv h hc hl h0, hp, (show 64 ≤ 1500 by decide), (show 1500 ≤ 65535 by decide), hn, hn⟩
theorem new_ok' {K : Kd} {r mc mt : Nat} {p : K.α} (h : Aut.may r mc mt = true) (hp : K.ok p) : Ok (newSd K r mc mt p) :=
  ⟨x0_inv h, hp, (show 64 ≤ 1500 by decide), (show 1500 ≤ 65535 by decide), (show 0 < 256 by decide), (show 0 < 256 by decide)⟩
theorem new1_ok {K : Kd} {r mc mt : Nat} {p : K.α} (h : Aut.may r mc mt = true) (hp : K.ok p) : Ok ({ newSd K r mc mt p with x := x1 r mc mt } : Sd K) := by
  refine ⟨?_, hp, (show 64 ≤ 1500 by decide), (show 1500 ≤ 65535 by decide), (show 0 < 256 by decide), (show 0 < 256 by decide)⟩
  have h1 := evX_inv (x0_inv h) 2
  rw [(open_x r mc mt).2.2] at h1
  exact h1
/-! ### rows that are carried -/
def Rowk (w : World) (g a q : Nat) (R : Option Addr) (l : List Pk) : Prop := Pks w R l ∧ ∀ ad, R = some ad → ¬ My g a q ad.block
theorem rowk_of {w : World} {base g a q : Nat} {e : TypeId} {R : Option Addr} {c : Nat} {l : List Pk} (h : w.ownsRow base e 3 (.slice R l.length c) l.length (pksV l)) (hg : ∀ k, My g a q k → k < base) : Rowk w g a q R l := by
  refine ⟨pks_own h, fun ad e hk => ?_⟩
  subst e
  have h1 := h.lt ad.block rfl
  have := hg _ hk
  omega
theorem Rowk.moves {w w' : World} {g a q : Nat} {R : Option Addr} {l : List Pk} (h : Rowk w g a q R l) (hm : Moves (My g a q) w w') : Rowk w' g a q R l := ⟨h.1.moves hm h.2, h.2⟩
theorem Rowk.callee {w w' : World} {g a q : Nat} {R : Option Addr} {l : List Pk} (h : Rowk w g a q R l) (hb : Below w.heap.size w w') : Rowk w' g a q R l := ⟨h.1.below hb, h.2⟩
end Go.Proofs.YtgefodpnhifmdaaGreat.Neg

/- alive. -/
namespace Go.Proofs.YtgefodpnhifmdaaGreat.Neg
open Go.RowKit Go.Proofs.YtgefodpnhifmdaaGreat.Oct Go.Proofs.YtgefodpnhifmdaaGreat.Row Go.Proofs.YtgefodpnhifmdaaGreat.Mem Go.Proofs.YtgefodpnhifmdaaGreat.Opt Go.Proofs.YtgefodpnhifmdaaGreat.Fsm
open Go.Proofs.YtgefodpnhifmdaaGreat.Aut (Au Aut Inv evA evE evX tk tkS tev)

set_option maxHeartbeats 1000000 in
set_option maxRecDepth 100000 in
theorem auto_any (w : World) : Calls Tryz.prog 6 #[] w fun e w' => e = .returned (.agg #[.int .i64 3, .int .i64 10, .int .i64 2]) ∧ Below w.heap.size w w' := by
  go_enter Tryz.func6, Tryz.ntmps6
  go_wp2
  (try simp only [Exit.inBlock, Exit.then])
  refine bodyPost_ret (results_cell_row rfl _ _ w.heap.size _ _ _ _ rfl (blk_new w [.int .i64 3, .int .i64 10, .int .i64 2] 30) Tryz.underlying30 rfl (by kernel_rfl)) rfl ?_
  exact ⟨rfl, (Below.refl w.heap.size w).alloc (Nat.le_refl _) _⟩
def ec : Ipp.Conf := ⟨0, 0, 0, 0, false, 3⟩
def ep : Ipp.Po := Ipp.newP ec
def t0 : Sd ipK := newSd ipK 3 10 2 ep
def t1 : Sd ipK := { newSd ipK 3 10 2 ep with x := x1 3 10 2 }
def t2 : Sd ipK := s6 ipK 3 10 2 9 3 1 ep
def t3 : Sd ipK := { s6 ipK 3 10 2 9 3 1 ep with cnt := 2 }
def dR : ByteArray := ⟨#[3, 6, 0, 0, 0, 0]⟩
def dC : ByteArray := ⟨#[99, 1, 0, 4]⟩
theorem may3 : Aut.may 3 10 2 = true := by decide
theorem ep_ok : ipK.ok ep := by
  show Ipc.may ep.w = true
  decide
theorem ep_req : reqD ipK ep = dR := by
  show bOf (enc (Ipc.put ep.w)) = dR
  decide +kernel
theorem ev_open (g a q : Nat) (w : World) (h : SAt ipK w g a q t0) : Calls Tryz.prog 12 #[.pointer (some ⟨g, 0, none⟩), .int .u8 2, .int .u32 1] w (OccQ ipK g a q t1 [] 4 0 w) := by
  have h1 := event_ok ipK g a q t0 2 1 w h (new_ok' may3 ep_ok) (by decide) (open_x 3 10 2).2.1 (by rw [show t0.x = x0 3 10 2 from rfl, (open_x 3 10 2).1]; decide)
  rw [show t0.x = x0 3 10 2 from rfl, (open_x 3 10 2).1, show evS 2 1 t0 = _ from open_s ipK 3 10 2 ep 1] at h1
  exact h1
theorem ev_up (g a q : Nat) (w : World) (h : SAt ipK w g a q t1) : Calls Tryz.prog 12 #[.pointer (some ⟨g, 0, none⟩), .int .u8 0, .int .u32 1] w (OccQ ipK g a q t2 [⟨1, 1, dR⟩] 0 0 w) := by
  have h1 := event_ok ipK g a q t1 0 1 w h (new1_ok may3 ep_ok) (by decide) (up_x 3 10 2).2.1 (by rw [show t1.x = x1 3 10 2 from rfl, (up_x 3 10 2).1]; decide)
  rw [show t1.x = x1 3 10 2 from rfl, (up_x 3 10 2).1, show evS 0 1 t1 = _ from up_s ipK 3 10 2 ep 1, show ipK.renew ep 1 = ep from rfl, ep_req] at h1
  exact h1
theorem t2_ok : Ok t2 := s6_ok may3 (by decide) (by decide) (by decide) (by decide) ep_ok
theorem pk_term (g a q : Nat) (w : World) (h : SAt ipK w g a q t2) : Calls Tryz.prog 13 #[.pointer (some ⟨g, 0, none⟩), .agg #[.int .u8 5, .int .u8 7, .string ⟨#[]⟩], .int .u32 1] w (PakQ ipK g a q t2 [⟨6, 7, ⟨#[]⟩⟩] 0 0 false w) := by
  obtain ⟨b1, b2, b3, _⟩ := tab3
  obtain ⟨e1, e2, e3⟩ := ev6 3 10 2 9 3 10 1024 b2 b1 b3 (by decide) (by decide) (by decide) (by decide) (by decide) (by decide)
  have hf : fol ⟨1, ⟨5, 7, ⟨#[]⟩⟩, 0, []⟩ 10 t2 = (t2, [⟨6, 7, ⟨#[]⟩⟩]) := by
    unfold fol
    rw [show t2.x = x6 3 10 2 9 3 from rfl, e1, e3, bits1024]
    rfl
  refine packet_any ipK g a q t2 t2 ⟨5, 7, ⟨#[]⟩⟩ 1 [⟨6, 7, ⟨#[]⟩⟩] 0 0 false w h (fun W hW => ?_)
  refine receive_known ipK g a q t2 ⟨1, ⟨5, 7, ⟨#[]⟩⟩, 0, []⟩ none 0 0 W hW (by decide) (by decide) (ans_nil W g a q) (by decide) (by decide) (by decide) t2 [⟨6, 7, ⟨#[]⟩⟩] 0 0 false (fun U hU hA => ?_)
  have h1 := term_get ipK g a q t2 ⟨1, ⟨5, 7, ⟨#[]⟩⟩, 0, []⟩ none 0 0 U hU t2_ok hA (show 0 < 256 by decide) e2 (by rw [show t2.x = x6 3 10 2 9 3 from rfl, e1]; decide)
  rw [hf, show t2.x = x6 3 10 2 9 3 from rfl, e1] at h1
  exact h1
theorem pk_code (g a q : Nat) (w : World) (h : SAt ipK w g a q t2) : Calls Tryz.prog 13 #[.pointer (some ⟨g, 0, none⟩), .agg #[.int .u8 99, .int .u8 1, .string ⟨#[]⟩], .int .u32 1] w (PakQ ipK g a q t3 [⟨7, 2, dC⟩] 0 0 false w) := by
  obtain ⟨_, _, _, b1, b2, b3⟩ := tab3
  obtain ⟨e1, e2, e3⟩ := ev6 3 10 2 9 3 12 2048 b2 b1 b3 (by decide) (by decide) (by decide) (by decide) (by decide) (by decide)
  have hd : bOf ((Pkt.enc 99 1 (⟨#[]⟩ : ByteArray).toList).take (Rej.sp 1500)) = dC := by decide +kernel
  have hf : fol ⟨1, ⟨99, 1, ⟨#[]⟩⟩, 0, []⟩ 12 t2 = (t3, [⟨7, 2, dC⟩]) := by
    unfold fol
    rw [show t2.x = x6 3 10 2 9 3 from rfl, e1, e3, bits2048, ← hd]
    rfl
  refine packet_any ipK g a q t2 t3 ⟨99, 1, ⟨#[]⟩⟩ 1 [⟨7, 2, dC⟩] 0 0 false w h (fun W hW => ?_)
  have h1 := receive_ruc ipK g a q t2 ⟨1, ⟨99, 1, ⟨#[]⟩⟩, 0, []⟩ none 0 0 W hW (by decide) (by decide) (ans_nil W g a q) (by decide) t2_ok (show 0 < 256 by decide) e2 (by rw [show t2.x = x6 3 10 2 9 3 from rfl, e1]; decide)
  rw [hf, show t2.x = x6 3 10 2 9 3 from rfl, e1] at h1
  exact h1
end Go.Proofs.YtgefodpnhifmdaaGreat.Neg

/- alive. Written by gen/neg_m.py. -/
namespace Go.Proofs.YtgefodpnhifmdaaGreat.Neg
open Go.RowKit Go.Proofs.YtgefodpnhifmdaaGreat.Oct Go.Proofs.YtgefodpnhifmdaaGreat.Row Go.Proofs.YtgefodpnhifmdaaGreat.Mem Go.Proofs.YtgefodpnhifmdaaGreat.Opt Go.Proofs.YtgefodpnhifmdaaGreat.Fsm
open Go.Proofs.YtgefodpnhifmdaaGreat.Aut (Au Aut Inv)

theorem same_one (c i : UInt8) (d : ByteArray) (g a q rc : Nat) (R A : Option Addr) (w : World) (h : Rowk w g a q R [⟨c, i, d⟩]) (h' : Pks w A [⟨c, i, d⟩]) :
    Calls Tryz.prog 14 #[.agg #[.slice R 1 rc, .int .u16 0, .int .u16 0, .bool false], .agg #[.slice A 1 1, .int .u16 0, .int .u16 0, .bool false]] w fun e w' => e = .returned (.bool true) ∧ Below w.heap.size w w' :=
  same_yes [⟨c, i, d⟩] R A rc 1 0 0 false w (show 1 ≤ maxLen by unfold maxLen; decide) h.1 h'
/-- What the walk carries: the side, what was laid. -/
structure Cy (w w' : World) (g a q : Nat) (s : Sd ipK) : Prop where
  s : SAt ipK w' g a q s
  b : Below w.heap.size w w'
  my : ∀ k, My g a q k → w.heap.size ≤ k
theorem Cy.callee {w w' w'' : World} {g a q : Nat} {s : Sd ipK} (h : Cy w w' g a q s) (hb : Below w'.heap.size w' w'') : Cy w w'' g a q s := ⟨h.s.callee hb, h.b.trans (hb.mono h.b.size), h.my⟩
theorem Cy.go {w w' w'' : World} {g a q : Nat} {s s' : Sd ipK} (h : Cy w w' g a q s) (hs : SAt ipK w'' g a q s') (hm : Moves (My g a q) w' w'') : Cy w w'' g a q s' := ⟨hs, h.b.trans (hm.below h.b.size h.my), h.my⟩
/-- An outcome in a block of its own, with its row. -/
def Bx (w : World) (g a q b : Nat) (R : Option Addr) (rc : Nat) (l : List Pk) : Prop := Blk w b [.slice R l.length rc, .int .u16 0, .int .u16 0, .bool false] 46 ∧ Rowk w g a q R l ∧ ¬ My g a q b
theorem Bx.callee {w w' : World} {g a q b : Nat} {R : Option Addr} {rc : Nat} {l : List Pk} (h : Bx w g a q b R rc l) (hb : Below w.heap.size w w') : Bx w' g a q b R rc l := ⟨h.1.callee hb, h.2.1.callee hb, h.2.2⟩
theorem Bx.moves {w w' : World} {g a q b : Nat} {R : Option Addr} {rc : Nat} {l : List Pk} (h : Bx w g a q b R rc l) (hm : Moves (My g a q) w w') : Bx w' g a q b R rc l := ⟨h.1.moves hm h.2.2, h.2.1.moves hm, h.2.2⟩
/-- A new one. -/
theorem bx_new {w : World} {base g a q : Nat} {R : Option Addr} {rc : Nat} {l : List Pk} {s : Sd ipK} (h : w.ownsRow base 51 3 (.slice R l.length rc) l.length (pksV l)) (hg : ∀ k, My g a q k → k < base) (hs : SAt ipK w g a q s) : Bx (w.alloc (.cells #[.slice R l.length rc, .int .u16 0, .int .u16 0, .bool false] 46)) g a q w.heap.size R rc l :=
  ⟨blk_new w [.slice R l.length rc, .int .u16 0, .int .u16 0, .bool false] _, (rowk_of h hg).callee ((Below.refl _ _).alloc (Nat.le_refl _) _), fun e => by have := hs.old _ e; omega⟩
set_option maxHeartbeats 16000000 in
set_option maxRecDepth 100000 in
theorem alive_any (w : World) : Calls Tryz.prog 4 #[] w fun e w' => e = .returned (.bool true) ∧ Below w.heap.size w w' := by
  have A0 := Lib.hid auto_any
  have N1 : Hid (∀ w, Calls Tryz.prog 5 #[.agg #[.int .i64 3, .int .i64 10, .int .i64 2], .agg #[Value.int .u32 0, .int .u32 0, .int .u32 0, .int .u32 0, .bool false, .int .i64 3]] w (NewQ ipK t0 w)) := fun w => ipcp_ok 3 10 2 ec w may3 (by decide)
  have N2 : Hid (∀ w, Calls Tryz.prog 5 #[.agg #[.int .i64 3, .int .i64 10, .int .i64 2], .agg #[Value.int .u32 0, .int .u32 0, .int .u32 0, .int .u32 0, .bool false, .int .i64 0]] w (NoQ w)) := fun w => ipcp_no 3 10 2 ⟨0, 0, 0, 0, false, 0⟩ w (by decide)
  go_enter Tryz.func4, Tryz.ntmps4
  go_wp2_with fail
  refine (A0.out _).mono ?_
  rintro e w1 ⟨rfl, hb1⟩
  have B1 := Lib.hid hb1
  clear hb1
  go_wp2_with fail
  refine (N1.out _).mono ?_
  rintro e w2 ⟨g, a, q, rfl, hg, ha, hq, hs, hb2⟩
  have C2 : Hid (Cy w w2 g a q t0) := ⟨hs, B1.out.trans (hb2.mono B1.out.size), by have := B1.out.size; rintro k (rfl | rfl | rfl) <;> omega⟩
  clear hg ha hq hs hb2 B1 N1
  go_wp2_with fail
  refine (A0.out _).mono ?_
  rintro e w3 ⟨rfl, hb3⟩
  have C3 := Lib.hid (C2.out.callee hb3)
  clear hb3 C2 A0
  go_wp2_with fail
  refine (N2.out _).mono ?_
  rintro e w4 ⟨rfl, hb4⟩
  have C4 := Lib.hid (C3.out.callee hb4)
  clear hb4 C3 N2
  go_wp2_with fail
  refine (ev_open g a q _ C4.out.s).mono ?_
  rintro e w5 ⟨R0, rc0, rfl, hr, hs, hm⟩
  have C5 := Lib.hid (C4.out.go hs hm)
  clear hr hs hm C4
  go_wp2_with fail
  refine (ev_up g a q _ C5.out.s).mono ?_
  rintro e w6 ⟨R1, rc1, rfl, hr, hs, hm⟩
  have C6 := Lib.hid (C5.out.go hs hm)
  have X1 := Lib.hid (bx_new hr C5.out.s.old hs)
  have C6' := Lib.hid (C6.out.callee ((Below.refl _ _).alloc (Nat.le_refl _) (.cells #[.slice R1 1 rc1, .int .u16 0, .int .u16 0, .bool false] 46)))
  clear hr hs hm C5 C6
  go_wp2_with fail
  refine (pk_term g a q _ C6'.out.s).mono ?_
  rintro e w7 ⟨R2, rc2, rfl, hr, hs, hm⟩
  have C7 := Lib.hid (C6'.out.go hs hm)
  have X2 := Lib.hid (bx_new hr C6'.out.s.old hs)
  have hb7 := (Below.refl _ w7).alloc (Nat.le_refl _) (.cells #[.slice R2 1 rc2, .int .u16 0, .int .u16 0, .bool false] 46)
  have X1b := Lib.hid ((X1.out.moves hm).callee hb7)
  have C7' := Lib.hid (C7.out.callee hb7)
  clear hr hs hm C6' C7 X1 hb7
  go_wp2_with fail
  refine (pk_code g a q _ C7'.out.s).mono ?_
  rintro e w8 ⟨R3, rc3, rfl, hr, hs, hm⟩
  have C8 := Lib.hid (C7'.out.go hs hm)
  have X3 := Lib.hid (bx_new hr C7'.out.s.old hs)
  have hb8 := (Below.refl _ w8).alloc (Nat.le_refl _) (.cells #[.slice R3 1 rc3, .int .u16 0, .int .u16 0, .bool false] 46)
  have X1c := Lib.hid ((X1b.out.moves hm).callee hb8)
  have X2c := Lib.hid ((X2.out.moves hm).callee hb8)
  have B8 := Lib.hid (C8.out.callee hb8).b
  clear hr hs hm C7' C8 X1b X2 hb8
  have p00 : (w8.alloc (.cells #[.slice R3 1 rc3, .int .u16 0, .int .u16 0, .bool false] 46)).cell? ⟨w6.heap.size, 0, none⟩ = some (.slice R1 1 rc1) := X1c.out.1.at_ 0
  have p01 : (w8.alloc (.cells #[.slice R3 1 rc3, .int .u16 0, .int .u16 0, .bool false] 46)).cell? ⟨w6.heap.size, 1, none⟩ = some (.int .u16 0) := X1c.out.1.at_ 1
  have p02 : (w8.alloc (.cells #[.slice R3 1 rc3, .int .u16 0, .int .u16 0, .bool false] 46)).cell? ⟨w6.heap.size, 2, none⟩ = some (.int .u16 0) := X1c.out.1.at_ 2
  have p03 : (w8.alloc (.cells #[.slice R3 1 rc3, .int .u16 0, .int .u16 0, .bool false] 46)).cell? ⟨w6.heap.size, 3, none⟩ = some (.bool false) := X1c.out.1.at_ 3
  go_wp2_with fail
  have hl0 := (Below.refl _ (w8.alloc (.cells #[.slice R3 1 rc3, .int .u16 0, .int .u16 0, .bool false] 46))).alloc (Nat.le_refl _) (.cells #[.int .u8 1, .int .u8 1, .string ⟨#[3, 6, 0, 0, 0, 0]⟩] 51)
  have Y0 := Lib.hid (X1c.out.callee hl0)
  have Z0_1 := Lib.hid (X2c.out.callee hl0)
  have Z0_2 := Lib.hid (X3.out.callee hl0)
  have D0 := Lib.hid (B8.out.trans (hl0.mono B8.out.size))
  have hP0 := Lib.hid (pks_one (w8.alloc (.cells #[.slice R3 1 rc3, .int .u16 0, .int .u16 0, .bool false] 46)) ⟨1, 1, dR⟩ 51)
  rw [World.size_alloc] at hP0
  refine (same_one 1 1 dR g a q rc1 R1 _ _ Y0.out.2.1 hP0.out).mono ?_
  rintro e v0 ⟨rfl, hv0⟩
  have W0_1 := Lib.hid (Z0_1.out.callee hv0)
  have W0_2 := Lib.hid (Z0_2.out.callee hv0)
  have E0 := Lib.hid (D0.out.trans (hv0.mono D0.out.size))
  clear hl0 hv0 Y0 D0 p00 p01 p02 p03 X1c B8 Z0_1 X2c Z0_2 X3
  have p10 : v0.cell? ⟨w7.heap.size, 0, none⟩ = some (.slice R2 1 rc2) := W0_1.out.1.at_ 0
  have p11 : v0.cell? ⟨w7.heap.size, 1, none⟩ = some (.int .u16 0) := W0_1.out.1.at_ 1
  have p12 : v0.cell? ⟨w7.heap.size, 2, none⟩ = some (.int .u16 0) := W0_1.out.1.at_ 2
  have p13 : v0.cell? ⟨w7.heap.size, 3, none⟩ = some (.bool false) := W0_1.out.1.at_ 3
  go_wp2_with fail
  have hl1 := (Below.refl _ v0).alloc (Nat.le_refl _) (.cells #[.int .u8 6, .int .u8 7, .string ⟨#[]⟩] 51)
  have Y1 := Lib.hid (W0_1.out.callee hl1)
  have Z1_2 := Lib.hid (W0_2.out.callee hl1)
  have D1 := Lib.hid (E0.out.trans (hl1.mono E0.out.size))
  have hP1 := Lib.hid (pks_one v0 ⟨6, 7, ⟨#[]⟩⟩ 51)
  refine (same_one 6 7 ⟨#[]⟩ g a q rc2 R2 _ _ Y1.out.2.1 hP1.out).mono ?_
  rintro e v1 ⟨rfl, hv1⟩
  have W1_2 := Lib.hid (Z1_2.out.callee hv1)
  have E1 := Lib.hid (D1.out.trans (hv1.mono D1.out.size))
  clear hl1 hv1 Y1 D1 p10 p11 p12 p13 W0_1 E0 Z1_2 W0_2
  have p20 : v1.cell? ⟨w8.heap.size, 0, none⟩ = some (.slice R3 1 rc3) := W1_2.out.1.at_ 0
  have p21 : v1.cell? ⟨w8.heap.size, 1, none⟩ = some (.int .u16 0) := W1_2.out.1.at_ 1
  have p22 : v1.cell? ⟨w8.heap.size, 2, none⟩ = some (.int .u16 0) := W1_2.out.1.at_ 2
  have p23 : v1.cell? ⟨w8.heap.size, 3, none⟩ = some (.bool false) := W1_2.out.1.at_ 3
  go_wp2_with fail
  have hl2 := (Below.refl _ v1).alloc (Nat.le_refl _) (.cells #[.int .u8 7, .int .u8 2, .string ⟨#[99, 1, 0, 4]⟩] 51)
  have Y2 := Lib.hid (W1_2.out.callee hl2)
  have D2 := Lib.hid (E1.out.trans (hl2.mono E1.out.size))
  have hP2 := Lib.hid (pks_one v1 ⟨7, 2, dC⟩ 51)
  refine (same_one 7 2 dC g a q rc3 R3 _ _ Y2.out.2.1 hP2.out).mono ?_
  rintro e v2 ⟨rfl, hv2⟩
  have E2 := Lib.hid (D2.out.trans (hv2.mono D2.out.size))
  clear hl2 hv2 Y2 D2 p20 p21 p22 p23 W1_2 E1
  go_wp2
  go_ret
  exact ⟨rfl, E2.out⟩
end Go.Proofs.YtgefodpnhifmdaaGreat.Neg
