/- Put together: NegK, NegL, NegM, NegN. -/
import Derived.Test.YtikcgcgbcolndaaGreatNegG
import Derived.Test.YtikcgcgbcolndaaGreatNegI
import Derived.Test.YtikcgcgbcolndaaGreatNegJ

/- What the chapter's examples come to. -/
namespace Go.Proofs.YtikcgcgbcolndaaGreat.Neg
open Go.RowKit Go.Proofs.YtikcgcgbcolndaaGreat.Oct Go.Proofs.YtikcgcgbcolndaaGreat.Row Go.Proofs.YtikcgcgbcolndaaGreat.Mem Go.Proofs.YtikcgcgbcolndaaGreat.Opt Go.Proofs.YtikcgcgbcolndaaGreat.Fsm
open Go.Proofs.YtikcgcgbcolndaaGreat.Aut (Au Aut Inv evA evE evX tk tkS tev)

/-! ### a Terminate-Request -/
set_option maxHeartbeats 4000000 in
set_option maxRecDepth 100000 in
theorem term_get (K : Kd) (g a q : Nat) (s : Sd K) (i : In) (A : Option Addr) (n c : Nat) (w : World) (h : SAt K w g a q s) (hok : Ok s) (ha : Ans w g a q A n i.ans) (hc : i.code < 256) (he : evE s.x 10 = 0) (h4 : has (evA s.x 10) 4096 = false) :
    Calls Tryz.prog 69 #[.pointer (some ⟨g, 0, none⟩), .agg #[.int .u32 i.draw, .int .u8 i.p.c.toNat, .int .u8 i.p.i.toNat, .string i.p.d, .int .u8 i.code, .slice A n c]] w (OutQ K g a q (fol i 10 s).1 (fol i 10 s).2 (told (evA s.x 10)) 0 false w) := by
  obtain ⟨W, hW, HW⟩ := box_io w i A n c
  have HF : Hid (∀ W, SAt K W g a q s → Ans W g a q A n i.ans → Calls Tryz.prog 54 #[.pointer (some ⟨g, 0, none⟩), .int .u8 10, .agg #[.int .u32 i.draw, .int .u8 i.p.c.toNat, .int .u8 i.p.i.toNat, .string i.p.d, .int .u8 i.code, .slice A n c]] W (OutQ K g a q (fol i 10 s).1 (fol i 10 s).2 (told (evA s.x 10)) 0 false W)) := fun W h1 h2 => follow_any K g a q s 10 i A n c W h1 hok.inv h2 he (does_no h4 ⟨evX_inv hok.inv 10, hok.pol, hok.m0, hok.m1, hok.c, hok.l⟩ hc)
  have HG := Lib.hid h.old
  have H := Lib.hid (h.callee HW.out.2.2)
  have M : Hid (Moves (My g a q) w W) := Moves.of_below HW.out.2.2
  have HA := Lib.hid (ha.moves M.out)
  have HI := Lib.hid HW.out.1
  have HZ := Lib.hid HW.out.2.1
  have d0 : W.cell? ⟨w.heap.size, 0, none⟩ = some (.int .u32 i.draw) := HI.out.at_ 0
  have d1 : W.cell? ⟨w.heap.size, 1, none⟩ = some (.int .u8 i.p.c.toNat) := HI.out.at_ 1
  have d2 : W.cell? ⟨w.heap.size, 2, none⟩ = some (.int .u8 i.p.i.toNat) := HI.out.at_ 2
  have d3 : W.cell? ⟨w.heap.size, 3, none⟩ = some (.string i.p.d) := HI.out.at_ 3
  have d4 : W.cell? ⟨w.heap.size, 4, none⟩ = some (.int .u8 i.code) := HI.out.at_ 4
  have d5 : W.cell? ⟨w.heap.size, 5, none⟩ = some (.slice A n c) := HI.out.at_ 5
  clear h hok ha hc he h4 HW
  generalize told (evA s.x 10) = T at *
  generalize fol i 10 s = r at *
  obtain ⟨s', l⟩ := r
  simp only at HF ⊢
  go_enter Tryz.func69, Tryz.ntmps69
  go_wp2_with fail
  refine (HF.out _ H.out HA.out).mono ?_
  rintro e w1 ⟨R, rc, rfl, hr, h1, hm1⟩
  have H1 := Lib.hid h1
  have M1 := Lib.hid (M.out.trans hm1 fun _ _ x => x)
  have HR := Lib.hid (own_mono hr M.out.size)
  have HZ1 := Lib.hid (HZ.out.moves hm1 (fun e => by have := HG.out _ e; omega))
  clear h1 hm1 hr HF d0 d1 d2 d3 d4 d5
  obtain ⟨z0, z1, z2, z3, y0, y1, y2, y3⟩ := out_facts HZ1.out
  go_wp2
  (try simp only [Exit.inBlock, Exit.then])
  refine bodyPost_ret (results_cell_row rfl _ _ (w.heap.size + 1) _ _ _ _ rfl (out_put HZ1.out (.slice R l.length rc) T 0 false).1 Tryz.underlying59 rfl (by kernel_rfl)) rfl ?_
  exact out_end1 HZ1.out HR.out H1.out M1.out (Nat.le_succ _) HG.out
theorem ev6 (r mc mt c l ev set : Nat) (ha : nA 6 ev = set) (he : nE 6 ev = 0) (hn : nN 6 ev = 6) (h4 : ev ≠ 4) (h5 : ev ≠ 5) (h1 : has set 16 = false) (h2 : has set 32 = false) (h3 : has set 64 = false) (h9 : has set 512 = false) :
    evA (x6 r mc mt c l) ev = set ∧ evE (x6 r mc mt c l) ev = 0 ∧ evX (x6 r mc mt c l) ev = x6 r mc mt c l := by
  have h : ¬ (ev = 4 ∨ ev = 5) := by omega
  unfold evA evE evX
  rw [if_neg h, if_neg h, if_neg h]
  refine ⟨ha, he, ?_⟩
  unfold Aut.come
  show (if nE 6 ev = 0 then Aut.fin (nN 6 ev) (Aut.acts (nA 6 ev) (x6 r mc mt c l)) else _) = _
  rw [if_pos he, ha, hn, Aut.acts_is, h1, h2, h3, h9]
  rfl
theorem s6_ok {K : Kd} {r mc mt c l n : Nat} {p : K.α} (h : Aut.may r mc mt = true) (hc : c ≤ mc) (hl : l ≤ r) (h0 : 0 < l) (hn : n < 256) (hp : K.ok p) : Ok (s6 K r mc mt c l n p) :=
  ⟨x6_inv h hc hl h0, hp, (show 64 ≤ 1500 by decide), (show 1500 ≤ 65535 by decide), hn, hn⟩
theorem new_ok' {K : Kd} {r mc mt : Nat} {p : K.α} (h : Aut.may r mc mt = true) (hp : K.ok p) : Ok (newSd K r mc mt p) :=
  ⟨x0_inv h, hp, (show 64 ≤ 1500 by decide), (show 1500 ≤ 65535 by decide), (show 0 < 256 by decide), (show 0 < 256 by decide)⟩
theorem new1_ok {K : Kd} {r mc mt : Nat} {p : K.α} (h : Aut.may r mc mt = true) (hp : K.ok p) : Ok ({ newSd K r mc mt p with x := x1 r mc mt } : Sd K) := by
  refine ⟨?_, hp, (show 64 ≤ 1500 by decide), (show 1500 ≤ 65535 by decide), (show 0 < 256 by decide), (show 0 < 256 by decide)⟩
  have h1 := evX_inv (x0_inv h) 2
  rw [(open_x r mc mt).2.2] at h1
  exact h1
/-! ### rows that are carried -/
def Rowk (w : World) (g a q : Nat) (R : Option Addr) (l : List Pk) : Prop := Pks w R l ∧ ∀ ad, R = some ad → ¬ My g a q ad.block
theorem rowk_of {w : World} {base g a q : Nat} {e : TypeId} {R : Option Addr} {c : Nat} {l : List Pk} (h : w.ownsRow base e 3 (.slice R l.length c) l.length (pksV l)) (hg : ∀ k, My g a q k → k < base) : Rowk w g a q R l := by
  refine ⟨pks_own h, fun ad e hk => ?_⟩
  subst e
  have h1 := h.lt ad.block rfl
  have := hg _ hk
  omega
theorem Rowk.moves {w w' : World} {g a q : Nat} {R : Option Addr} {l : List Pk} (h : Rowk w g a q R l) (hm : Moves (My g a q) w w') : Rowk w' g a q R l := ⟨h.1.moves hm h.2, h.2⟩
theorem Rowk.callee {w w' : World} {g a q : Nat} {R : Option Addr} {l : List Pk} (h : Rowk w g a q R l) (hb : Below w.heap.size w w') : Rowk w' g a q R l := ⟨h.1.below hb, h.2⟩
end Go.Proofs.YtikcgcgbcolndaaGreat.Neg

/- alive. -/
namespace Go.Proofs.YtikcgcgbcolndaaGreat.Neg
open Go.RowKit Go.Proofs.YtikcgcgbcolndaaGreat.Oct Go.Proofs.YtikcgcgbcolndaaGreat.Row Go.Proofs.YtikcgcgbcolndaaGreat.Mem Go.Proofs.YtikcgcgbcolndaaGreat.Opt Go.Proofs.YtikcgcgbcolndaaGreat.Fsm
open Go.Proofs.YtikcgcgbcolndaaGreat.Aut (Au Aut Inv evA evE evX tk tkS tev)

set_option maxHeartbeats 1000000 in
set_option maxRecDepth 100000 in
theorem auto_any (w : World) : Calls Tryz.prog 10 #[] w fun e w' => e = .returned (.agg #[.int .i64 3, .int .i64 10, .int .i64 2]) ∧ Below w.heap.size w w' := by
  go_enter Tryz.func10, Tryz.ntmps10
  go_wp2
  (try simp only [Exit.inBlock, Exit.then])
  refine bodyPost_ret (results_cell_row rfl _ _ w.heap.size _ _ _ _ rfl (blk_new w [.int .i64 3, .int .i64 10, .int .i64 2] 34) Tryz.underlying34 rfl (by kernel_rfl)) rfl ?_
  exact ⟨rfl, (Below.refl w.heap.size w).alloc (Nat.le_refl _) _⟩
def ec : Ipp.Conf := ⟨0, 0, 0, 0, false, 3⟩
def ep : Ipp.Po := Ipp.newP ec
def t0 : Sd ipK := newSd ipK 3 10 2 ep
def t1 : Sd ipK := { newSd ipK 3 10 2 ep with x := x1 3 10 2 }
def t2 : Sd ipK := s6 ipK 3 10 2 9 3 1 ep
def t3 : Sd ipK := { s6 ipK 3 10 2 9 3 1 ep with cnt := 2 }
def dR : ByteArray := ⟨#[3, 6, 0, 0, 0, 0]⟩
def dC : ByteArray := ⟨#[99, 1, 0, 4]⟩
theorem may3 : Aut.may 3 10 2 = true := by decide
theorem ep_ok : ipK.ok ep := by
  show Ipc.may ep.w = true
  decide
theorem ep_req : reqD ipK ep = dR := by
  show bOf (enc (Ipc.put ep.w)) = dR
  decide +kernel
theorem ev_open (g a q : Nat) (w : World) (h : SAt ipK w g a q t0) : Calls Tryz.prog 22 #[.pointer (some ⟨g, 0, none⟩), .int .u8 2, .int .u32 1] w (OccQ ipK g a q t1 [] 4 0 w) := by
  have h1 := event_ok ipK g a q t0 2 1 w h (new_ok' may3 ep_ok) (by decide) (open_x 3 10 2).2.1 (by rw [show t0.x = x0 3 10 2 from rfl, (open_x 3 10 2).1]; decide)
  rw [show t0.x = x0 3 10 2 from rfl, (open_x 3 10 2).1, show evS 2 1 t0 = _ from open_s ipK 3 10 2 ep 1] at h1
  exact h1
theorem ev_up (g a q : Nat) (w : World) (h : SAt ipK w g a q t1) : Calls Tryz.prog 22 #[.pointer (some ⟨g, 0, none⟩), .int .u8 0, .int .u32 1] w (OccQ ipK g a q t2 [⟨1, 1, dR⟩] 0 0 w) := by
  have h1 := event_ok ipK g a q t1 0 1 w h (new1_ok may3 ep_ok) (by decide) (up_x 3 10 2).2.1 (by rw [show t1.x = x1 3 10 2 from rfl, (up_x 3 10 2).1]; decide)
  rw [show t1.x = x1 3 10 2 from rfl, (up_x 3 10 2).1, show evS 0 1 t1 = _ from up_s ipK 3 10 2 ep 1, show ipK.renew ep 1 = ep from rfl, ep_req] at h1
  exact h1
theorem t2_ok : Ok t2 := s6_ok may3 (by decide) (by decide) (by decide) (by decide) ep_ok
theorem pk_term (g a q : Nat) (w : World) (h : SAt ipK w g a q t2) : Calls Tryz.prog 25 #[.pointer (some ⟨g, 0, none⟩), .agg #[.int .u8 5, .int .u8 7, .string ⟨#[]⟩], .int .u32 1] w (PakQ ipK g a q t2 [⟨6, 7, ⟨#[]⟩⟩] 0 0 false w) := by
  obtain ⟨b1, b2, b3, _⟩ := tab3
  obtain ⟨e1, e2, e3⟩ := ev6 3 10 2 9 3 10 1024 b2 b1 b3 (by decide) (by decide) (by decide) (by decide) (by decide) (by decide)
  have hf : fol ⟨1, ⟨5, 7, ⟨#[]⟩⟩, 0, []⟩ 10 t2 = (t2, [⟨6, 7, ⟨#[]⟩⟩]) := by
    unfold fol
    rw [show t2.x = x6 3 10 2 9 3 from rfl, e1, e3, bits1024]
    rfl
  refine packet_any ipK g a q t2 t2 ⟨5, 7, ⟨#[]⟩⟩ 1 [⟨6, 7, ⟨#[]⟩⟩] 0 0 false w h (fun W hW => ?_)
  refine receive_known ipK g a q t2 ⟨1, ⟨5, 7, ⟨#[]⟩⟩, 0, []⟩ none 0 0 W hW (by decide) (by decide) (ans_nil W g a q) (by decide) (by decide) (by decide) t2 [⟨6, 7, ⟨#[]⟩⟩] 0 0 false (fun U hU hA => ?_)
  have h1 := term_get ipK g a q t2 ⟨1, ⟨5, 7, ⟨#[]⟩⟩, 0, []⟩ none 0 0 U hU t2_ok hA (show 0 < 256 by decide) e2 (by rw [show t2.x = x6 3 10 2 9 3 from rfl, e1]; decide)
  rw [hf, show t2.x = x6 3 10 2 9 3 from rfl, e1] at h1
  exact h1
theorem pk_code (g a q : Nat) (w : World) (h : SAt ipK w g a q t2) : Calls Tryz.prog 25 #[.pointer (some ⟨g, 0, none⟩), .agg #[.int .u8 99, .int .u8 1, .string ⟨#[]⟩], .int .u32 1] w (PakQ ipK g a q t3 [⟨7, 2, dC⟩] 0 0 false w) := by
  obtain ⟨_, _, _, b1, b2, b3⟩ := tab3
  obtain ⟨e1, e2, e3⟩ := ev6 3 10 2 9 3 12 2048 b2 b1 b3 (by decide) (by decide) (by decide) (by decide) (by decide) (by decide)
  have hd : bOf ((Pkt.enc 99 1 (⟨#[]⟩ : ByteArray).toList).take (Rej.sp 1500)) = dC := by decide +kernel
  have hf : fol ⟨1, ⟨99, 1, ⟨#[]⟩⟩, 0, []⟩ 12 t2 = (t3, [⟨7, 2, dC⟩]) := by
    unfold fol
    rw [show t2.x = x6 3 10 2 9 3 from rfl, e1, e3, bits2048, ← hd]
    rfl
  refine packet_any ipK g a q t2 t3 ⟨99, 1, ⟨#[]⟩⟩ 1 [⟨7, 2, dC⟩] 0 0 false w h (fun W hW => ?_)
  have h1 := receive_ruc ipK g a q t2 ⟨1, ⟨99, 1, ⟨#[]⟩⟩, 0, []⟩ none 0 0 W hW (by decide) (by decide) (ans_nil W g a q) (by decide) t2_ok (show 0 < 256 by decide) e2 (by rw [show t2.x = x6 3 10 2 9 3 from rfl, e1]; decide)
  rw [hf, show t2.x = x6 3 10 2 9 3 from rfl, e1] at h1
  exact h1
end Go.Proofs.YtikcgcgbcolndaaGreat.Neg

/- alive. Written by gen/neg_m.py. -/
namespace Go.Proofs.YtikcgcgbcolndaaGreat.Neg
open Go.RowKit Go.Proofs.YtikcgcgbcolndaaGreat.Oct Go.Proofs.YtikcgcgbcolndaaGreat.Row Go.Proofs.YtikcgcgbcolndaaGreat.Mem Go.Proofs.YtikcgcgbcolndaaGreat.Opt Go.Proofs.YtikcgcgbcolndaaGreat.Fsm
open Go.Proofs.YtikcgcgbcolndaaGreat.Aut (Au Aut Inv)

theorem same_one (c i : UInt8) (d : ByteArray) (g a q rc : Nat) (R A : Option Addr) (w : World) (h : Rowk w g a q R [⟨c, i, d⟩]) (h' : Pks w A [⟨c, i, d⟩]) :
    Calls Tryz.prog 31 #[.agg #[.slice R 1 rc, .int .u16 0, .int .u16 0, .bool false], .agg #[.slice A 1 1, .int .u16 0, .int .u16 0, .bool false]] w fun e w' => e = .returned (.bool true) ∧ Below w.heap.size w w' :=
  same_yes [⟨c, i, d⟩] R A rc 1 0 0 false w (show 1 ≤ maxLen by unfold maxLen; decide) h.1 h'
/-- What the walk carries: the side, what was laid. -/
structure Cy (w w' : World) (g a q : Nat) (s : Sd ipK) : Prop where
  s : SAt ipK w' g a q s
  b : Below w.heap.size w w'
  my : ∀ k, My g a q k → w.heap.size ≤ k
theorem Cy.callee {w w' w'' : World} {g a q : Nat} {s : Sd ipK} (h : Cy w w' g a q s) (hb : Below w'.heap.size w' w'') : Cy w w'' g a q s := ⟨h.s.callee hb, h.b.trans (hb.mono h.b.size), h.my⟩
theorem Cy.go {w w' w'' : World} {g a q : Nat} {s s' : Sd ipK} (h : Cy w w' g a q s) (hs : SAt ipK w'' g a q s') (hm : Moves (My g a q) w' w'') : Cy w w'' g a q s' := ⟨hs, h.b.trans (hm.below h.b.size h.my), h.my⟩
/-- An outcome in a block of its own, with its row. -/
def Bx (w : World) (g a q b : Nat) (R : Option Addr) (rc : Nat) (l : List Pk) : Prop := Blk w b [.slice R l.length rc, .int .u16 0, .int .u16 0, .bool false] 59 ∧ Rowk w g a q R l ∧ ¬ My g a q b
theorem Bx.callee {w w' : World} {g a q b : Nat} {R : Option Addr} {rc : Nat} {l : List Pk} (h : Bx w g a q b R rc l) (hb : Below w.heap.size w w') : Bx w' g a q b R rc l := ⟨h.1.callee hb, h.2.1.callee hb, h.2.2⟩
theorem Bx.moves {w w' : World} {g a q b : Nat} {R : Option Addr} {rc : Nat} {l : List Pk} (h : Bx w g a q b R rc l) (hm : Moves (My g a q) w w') : Bx w' g a q b R rc l := ⟨h.1.moves hm h.2.2, h.2.1.moves hm, h.2.2⟩
/-- A new one. -/
theorem bx_new {w : World} {base g a q : Nat} {R : Option Addr} {rc : Nat} {l : List Pk} {s : Sd ipK} (h : w.ownsRow base 56 3 (.slice R l.length rc) l.length (pksV l)) (hg : ∀ k, My g a q k → k < base) (hs : SAt ipK w g a q s) : Bx (w.alloc (.cells #[.slice R l.length rc, .int .u16 0, .int .u16 0, .bool false] 59)) g a q w.heap.size R rc l :=
  ⟨blk_new w [.slice R l.length rc, .int .u16 0, .int .u16 0, .bool false] _, (rowk_of h hg).callee ((Below.refl _ _).alloc (Nat.le_refl _) _), fun e => by have := hs.old _ e; omega⟩
set_option maxHeartbeats 16000000 in
set_option maxRecDepth 100000 in
theorem alive_any (w : World) : Calls Tryz.prog 8 #[] w fun e w' => e = .returned (.bool true) ∧ Below w.heap.size w w' := by
  have A0 := Lib.hid auto_any
  have N1 : Hid (∀ w, Calls Tryz.prog 18 #[.agg #[.int .i64 3, .int .i64 10, .int .i64 2], .agg #[Value.int .u32 0, .int .u32 0, .int .u32 0, .int .u32 0, .bool false, .int .i64 3]] w (NewQ ipK t0 w)) := fun w => ipcp_ok 3 10 2 ec w may3 (by decide)
  have N2 : Hid (∀ w, Calls Tryz.prog 18 #[.agg #[.int .i64 3, .int .i64 10, .int .i64 2], .agg #[Value.int .u32 0, .int .u32 0, .int .u32 0, .int .u32 0, .bool false, .int .i64 0]] w (NoQ w)) := fun w => ipcp_no 3 10 2 ⟨0, 0, 0, 0, false, 0⟩ w (by decide)
  go_enter Tryz.func8, Tryz.ntmps8
  go_wp2_with fail
  refine (A0.out _).mono ?_
  rintro e w1 ⟨rfl, hb1⟩
  have B1 := Lib.hid hb1
  clear hb1
  go_wp2_with fail
  refine (N1.out _).mono ?_
  rintro e w2 ⟨g, a, q, rfl, hg, ha, hq, hs, hb2⟩
  have C2 : Hid (Cy w w2 g a q t0) := ⟨hs, B1.out.trans (hb2.mono B1.out.size), by have := B1.out.size; rintro k (rfl | rfl | rfl) <;> omega⟩
  clear hg ha hq hs hb2 B1 N1
  go_wp2_with fail
  refine (A0.out _).mono ?_
  rintro e w3 ⟨rfl, hb3⟩
  have C3 := Lib.hid (C2.out.callee hb3)
  clear hb3 C2 A0
  go_wp2_with fail
  refine (N2.out _).mono ?_
  rintro e w4 ⟨rfl, hb4⟩
  have C4 := Lib.hid (C3.out.callee hb4)
  clear hb4 C3 N2
  go_wp2_with fail
  refine (ev_open g a q _ C4.out.s).mono ?_
  rintro e w5 ⟨R0, rc0, rfl, hr, hs, hm⟩
  have C5 := Lib.hid (C4.out.go hs hm)
  clear hr hs hm C4
  go_wp2_with fail
  refine (ev_up g a q _ C5.out.s).mono ?_
  rintro e w6 ⟨R1, rc1, rfl, hr, hs, hm⟩
  have C6 := Lib.hid (C5.out.go hs hm)
  have X1 := Lib.hid (bx_new hr C5.out.s.old hs)
  have C6' := Lib.hid (C6.out.callee ((Below.refl _ _).alloc (Nat.le_refl _) (.cells #[.slice R1 1 rc1, .int .u16 0, .int .u16 0, .bool false] 59)))
  clear hr hs hm C5 C6
  go_wp2_with fail
  refine (pk_term g a q _ C6'.out.s).mono ?_
  rintro e w7 ⟨R2, rc2, rfl, hr, hs, hm⟩
  have C7 := Lib.hid (C6'.out.go hs hm)
  have X2 := Lib.hid (bx_new hr C6'.out.s.old hs)
  have hb7 := (Below.refl _ w7).alloc (Nat.le_refl _) (.cells #[.slice R2 1 rc2, .int .u16 0, .int .u16 0, .bool false] 59)
  have X1b := Lib.hid ((X1.out.moves hm).callee hb7)
  have C7' := Lib.hid (C7.out.callee hb7)
  clear hr hs hm C6' C7 X1 hb7
  go_wp2_with fail
  refine (pk_code g a q _ C7'.out.s).mono ?_
  rintro e w8 ⟨R3, rc3, rfl, hr, hs, hm⟩
  have C8 := Lib.hid (C7'.out.go hs hm)
  have X3 := Lib.hid (bx_new hr C7'.out.s.old hs)
  have hb8 := (Below.refl _ w8).alloc (Nat.le_refl _) (.cells #[.slice R3 1 rc3, .int .u16 0, .int .u16 0, .bool false] 59)
  have X1c := Lib.hid ((X1b.out.moves hm).callee hb8)
  have X2c := Lib.hid ((X2.out.moves hm).callee hb8)
  have B8 := Lib.hid (C8.out.callee hb8).b
  clear hr hs hm C7' C8 X1b X2 hb8
  have p00 : (w8.alloc (.cells #[.slice R3 1 rc3, .int .u16 0, .int .u16 0, .bool false] 59)).cell? ⟨w6.heap.size, 0, none⟩ = some (.slice R1 1 rc1) := X1c.out.1.at_ 0
  have p01 : (w8.alloc (.cells #[.slice R3 1 rc3, .int .u16 0, .int .u16 0, .bool false] 59)).cell? ⟨w6.heap.size, 1, none⟩ = some (.int .u16 0) := X1c.out.1.at_ 1
  have p02 : (w8.alloc (.cells #[.slice R3 1 rc3, .int .u16 0, .int .u16 0, .bool false] 59)).cell? ⟨w6.heap.size, 2, none⟩ = some (.int .u16 0) := X1c.out.1.at_ 2
  have p03 : (w8.alloc (.cells #[.slice R3 1 rc3, .int .u16 0, .int .u16 0, .bool false] 59)).cell? ⟨w6.heap.size, 3, none⟩ = some (.bool false) := X1c.out.1.at_ 3
  go_wp2_with fail
  have hl0 := (Below.refl _ (w8.alloc (.cells #[.slice R3 1 rc3, .int .u16 0, .int .u16 0, .bool false] 59))).alloc (Nat.le_refl _) (.cells #[.int .u8 1, .int .u8 1, .string ⟨#[3, 6, 0, 0, 0, 0]⟩] 56)
  have Y0 := Lib.hid (X1c.out.callee hl0)
  have Z0_1 := Lib.hid (X2c.out.callee hl0)
  have Z0_2 := Lib.hid (X3.out.callee hl0)
  have D0 := Lib.hid (B8.out.trans (hl0.mono B8.out.size))
  have hP0 := Lib.hid (pks_one (w8.alloc (.cells #[.slice R3 1 rc3, .int .u16 0, .int .u16 0, .bool false] 59)) ⟨1, 1, dR⟩ 56)
  rw [World.size_alloc] at hP0
  refine (same_one 1 1 dR g a q rc1 R1 _ _ Y0.out.2.1 hP0.out).mono ?_
  rintro e v0 ⟨rfl, hv0⟩
  have W0_1 := Lib.hid (Z0_1.out.callee hv0)
  have W0_2 := Lib.hid (Z0_2.out.callee hv0)
  have E0 := Lib.hid (D0.out.trans (hv0.mono D0.out.size))
  clear hl0 hv0 Y0 D0 p00 p01 p02 p03 X1c B8 Z0_1 X2c Z0_2 X3
  have p10 : v0.cell? ⟨w7.heap.size, 0, none⟩ = some (.slice R2 1 rc2) := W0_1.out.1.at_ 0
  have p11 : v0.cell? ⟨w7.heap.size, 1, none⟩ = some (.int .u16 0) := W0_1.out.1.at_ 1
  have p12 : v0.cell? ⟨w7.heap.size, 2, none⟩ = some (.int .u16 0) := W0_1.out.1.at_ 2
  have p13 : v0.cell? ⟨w7.heap.size, 3, none⟩ = some (.bool false) := W0_1.out.1.at_ 3
  go_wp2_with fail
  have hl1 := (Below.refl _ v0).alloc (Nat.le_refl _) (.cells #[.int .u8 6, .int .u8 7, .string ⟨#[]⟩] 56)
  have Y1 := Lib.hid (W0_1.out.callee hl1)
  have Z1_2 := Lib.hid (W0_2.out.callee hl1)
  have D1 := Lib.hid (E0.out.trans (hl1.mono E0.out.size))
  have hP1 := Lib.hid (pks_one v0 ⟨6, 7, ⟨#[]⟩⟩ 56)
  refine (same_one 6 7 ⟨#[]⟩ g a q rc2 R2 _ _ Y1.out.2.1 hP1.out).mono ?_
  rintro e v1 ⟨rfl, hv1⟩
  have W1_2 := Lib.hid (Z1_2.out.callee hv1)
  have E1 := Lib.hid (D1.out.trans (hv1.mono D1.out.size))
  clear hl1 hv1 Y1 D1 p10 p11 p12 p13 W0_1 E0 Z1_2 W0_2
  have p20 : v1.cell? ⟨w8.heap.size, 0, none⟩ = some (.slice R3 1 rc3) := W1_2.out.1.at_ 0
  have p21 : v1.cell? ⟨w8.heap.size, 1, none⟩ = some (.int .u16 0) := W1_2.out.1.at_ 1
  have p22 : v1.cell? ⟨w8.heap.size, 2, none⟩ = some (.int .u16 0) := W1_2.out.1.at_ 2
  have p23 : v1.cell? ⟨w8.heap.size, 3, none⟩ = some (.bool false) := W1_2.out.1.at_ 3
  go_wp2_with fail
  have hl2 := (Below.refl _ v1).alloc (Nat.le_refl _) (.cells #[.int .u8 7, .int .u8 2, .string ⟨#[99, 1, 0, 4]⟩] 56)
  have Y2 := Lib.hid (W1_2.out.callee hl2)
  have D2 := Lib.hid (E1.out.trans (hl2.mono E1.out.size))
  have hP2 := Lib.hid (pks_one v1 ⟨7, 2, dC⟩ 56)
  refine (same_one 7 2 dC g a q rc3 R3 _ _ Y2.out.2.1 hP2.out).mono ?_
  rintro e v2 ⟨rfl, hv2⟩
  have E2 := Lib.hid (D2.out.trans (hv2.mono D2.out.size))
  clear hl2 hv2 Y2 D2 p20 p21 p22 p23 W1_2 E1
  go_wp2
  go_ret
  exact ⟨rfl, E2.out⟩
end Go.Proofs.YtikcgcgbcolndaaGreat.Neg

/- A side of IPCP to which nothing comes: what its ticks come to. -/
namespace Go.Proofs.YtikcgcgbcolndaaGreat.Neg
open Go.RowKit Go.Proofs.YtikcgcgbcolndaaGreat.Oct Go.Proofs.YtikcgcgbcolndaaGreat.Row Go.Proofs.YtikcgcgbcolndaaGreat.Mem Go.Proofs.YtikcgcgbcolndaaGreat.Opt Go.Proofs.YtikcgcgbcolndaaGreat.Fsm
open Go.Proofs.YtikcgcgbcolndaaGreat.Aut (Au Aut Inv evA evE evX tk tkS tev)

/-- The side behind k ticks, and how many requests it sent. -/
def Run (r mc mt : Nat) (p : Ipp.Po) (k n : Nat) (x : Sd ipK) : Prop :=
  (∃ j t, j < mc ∧ t < r ∧ k = r * j + t ∧ n = j + 1 ∧ x = s6 ipK r mc mt (mc - 1 - j) (r - t) (j + 1) p) ∨ (r * mc ≤ k ∧ n = mc ∧ x = s3 ipK r mc mt mc p)
theorem run_start {r mc mt : Nat} {p : Ipp.Po} (h : Aut.may r mc mt = true) : Run r mc mt p 0 1 (s6 ipK r mc mt (mc - 1) r 1 p) := by
  obtain ⟨h1, h2, h3, h4, h5, h6⟩ := may_of h
  exact .inl ⟨0, 0, by omega, by omega, by simp, rfl, rfl⟩
theorem s3_ok {r mc mt n : Nat} {p : Ipp.Po} (h : Aut.may r mc mt = true) (hn : n < 256) (hp : ipK.ok p) : Ok (s3 ipK r mc mt n p) := by
  obtain ⟨h1, h2, h3, h4, h5, h6⟩ := may_of h
  exact ⟨⟨h1, h2, h3, h4, h5, h6, (show 3 < 10 by decide), Nat.zero_le _, Nat.zero_le _, rfl⟩, hp, (show 64 ≤ 1500 by decide), (show 1500 ≤ 65535 by decide), hn, hn⟩
theorem run_step {r mc mt : Nat} {p : Ipp.Po} {k n : Nat} {x : Sd ipK} (h : Aut.may r mc mt = true) (hp : ipK.ok p) (hr : Run r mc mt p k n x) :
    ∃ (x' : Sd ipK) (l : List Pk), tkSd 1 x = (x', l) ∧ Run r mc mt p (k + 1) (n + l.length) x' ∧ rqs (reqD ipK p) (n + l.length) = rqs (reqD ipK p) n ++ l ∧ n ≤ 20 ∧ l.length ≤ 1 ∧ has (tkS x.x) 4096 = false ∧ Ok x := by
  obtain ⟨h1, h2, h3, h4, h5, h6⟩ := may_of h
  rcases hr with ⟨j, t, hj, ht, rfl, rfl, rfl⟩ | ⟨hk, rfl, rfl⟩
  · have hok : Ok (s6 ipK r mc mt (mc - 1 - j) (r - t) (j + 1) p) := s6_ok h (by omega) (by omega) (by omega) (by omega) hp
    by_cases hl : 1 < r - t
    · obtain ⟨e1, e2⟩ := tick_on (n := j + 1) (r := r) (mc := mc) (mt := mt) (c := mc - 1 - j) ipK p 1 hl
      refine ⟨_, [], e2, .inl ⟨j, t + 1, hj, by omega, by omega, rfl, ?_⟩, by simp, by omega, by simp, ?_, hok⟩
      · rw [show r - (t + 1) = r - t - 1 by omega]
      · show has (tkS (x6 r mc mt (mc - 1 - j) (r - t))) 4096 = false
        rw [e1]; decide
    · have h1' : r - t = 1 := by omega
      rw [h1'] at hok ⊢
      by_cases hc : mc - 1 - j = 0
      · rw [hc] at hok ⊢
        obtain ⟨e1, e2⟩ := tick_end (n := j + 1) ipK p 1 h
        have hj1 : j + 1 = mc := by omega
        refine ⟨_, [], e2, .inr ⟨?_, by simp; omega, by rw [hj1]⟩, by simp, by omega, by simp, ?_, hok⟩
        · rw [← hj1, Nat.mul_add]; omega
        · show has (tkS (x6 r mc mt 0 1)) 4096 = false
          rw [e1]; decide
      · obtain ⟨e1, e2⟩ := tick_send (n := j + 1) (c := mc - 1 - j) ipK p 1 h (by omega) hc (by omega)
        refine ⟨_, _, e2, .inl ⟨j + 1, 0, by omega, by omega, ?_, rfl, ?_⟩, by rw [List.length_singleton]; exact rqs_succ _ _, by omega, by simp, ?_, hok⟩
        · rw [Nat.mul_add]; omega
        · rw [show mc - 1 - (j + 1) = mc - 1 - j - 1 by omega]
          rfl
        · show has (tkS (x6 r mc mt (mc - 1 - j) 1)) 4096 = false
          rw [e1]; decide
  · obtain ⟨e1, e2⟩ := tick_off (r := r) (mc := n) (mt := mt) (n := n) ipK p 1
    refine ⟨_, [], e2, .inr ⟨by omega, rfl, rfl⟩, by simp, by omega, by simp, ?_, s3_ok h (by omega) hp⟩
    show has (tkS (⟨r, n, mt, 3, 0, 0⟩ : Au)) 4096 = false
    rw [e1]; decide
theorem run_end {r mc mt : Nat} {p : Ipp.Po} {n : Nat} {x : Sd ipK} (h : Aut.may r mc mt = true) (hr : Run r mc mt p (r * (mc + 1)) n x) : n = mc ∧ x = s3 ipK r mc mt mc p := by
  obtain ⟨h1, h2, h3, h4, h5, h6⟩ := may_of h
  rcases hr with ⟨j, t, hj, ht, hk, _⟩ | ⟨_, h1, h2⟩
  · exfalso
    have e1 : r * (j + 1) ≤ r * mc := Nat.mul_le_mul_left r (by omega)
    rw [Nat.mul_add] at e1 hk
    omega
  · exact ⟨h1, h2⟩
theorem rq_at {D : ByteArray} {n k : Nat} {p : Pk} (h : (rqs D n)[k]? = some p) (hn : n ≤ 20) : k < n ∧ p.c.toNat = 1 ∧ p.i.toNat = k + 1 ∧ p.d = D := by
  have hk : k < n := by
    have := (List.getElem?_eq_some_iff.1 h).1
    rw [rqs_len] at this
    exact this
  have e : p = rq D k := by
    unfold rqs at h
    rw [List.getElem?_map, List.getElem?_range hk] at h
    simpa using h.symm
  subst e
  refine ⟨hk, rfl, ?_, rfl⟩
  show (UInt8.ofNat (k + 1)).toNat = k + 1
  exact ofNat_toNat (by omega)
theorem own_nilc {w : World} {base n size rc : Nat} {e : TypeId} {R : Option Addr} {xs : List Value} (h : w.ownsRow base e size (.slice R n rc) n xs) : R = none → rc = 0 := by
  rintro rfl
  rcases h.2 with ⟨e1, _⟩ | ⟨g, cap, cur, e1, _⟩
  · cases e1; rfl
  · cases e1
/-- What the walk of the ticks carries. -/
structure Ty (w wr : World) (g a q r mc mt k n : Nat) (p : Ipp.Po) (v : Value) : Prop where
  x : ∃ x : Sd ipK, Run r mc mt p k n x ∧ SAt ipK wr g a q x
  b : Below w.heap.size w wr
  my : ∀ j, My g a q j → w.heap.size + 2 ≤ j
  row : wr.ownsRow (w.heap.size + 2) 56 3 v n (pksV (rqs (reqD ipK p) n))
  no : ∀ j, v.ownBlock = some j → ¬ My g a q j
  conf : Blk wr w.heap.size [.int .i64 r, .int .i64 mc, .int .i64 mt] 34
theorem Ty.callee {w wr w' : World} {g a q r mc mt k n : Nat} {p : Ipp.Po} {v : Value} (h : Ty w wr g a q r mc mt k n p v) (hb : Below wr.heap.size wr w') : Ty w w' g a q r mc mt k n p v := by
  obtain ⟨x, hr, hx⟩ := h.x
  exact ⟨⟨x, hr, hx.callee hb⟩, h.b.trans (hb.mono h.b.size), h.my, (Moves.of_below (S := fun _ => False) hb).row h.row (fun _ _ => id), h.no, h.conf.callee hb⟩
theorem my_no {w : World} {g a q base n : Nat} {s : Sd ipK} {v : Value} {xs : List Value} (h : SAt ipK w g a q s) (hr : w.ownsRow base 56 3 v n xs) : ∀ j, v.ownBlock = some j → ¬ My g a q j := by
  rintro j hj (rfl | rfl | rfl)
  · exact cells_not_row (e := 56) h.1 (by decide) hr hj
  · exact cells_not_row (e := 56) h.2.1 (by decide) hr hj
  · have hp : Ipp.PAt w j s.p := h.2.2.1
    exact cells_not_row (e := 56) hp (by decide) hr hj
theorem Ty.row1 {w wr v1 V : World} {g a q r mc mt k n rc : Nat} {R : Option Addr} {p : Ipp.Po} (h : Ty w wr g a q r mc mt k n p (.slice R n rc)) (hm : Moves (My g a q) wr v1) (hb : Below v1.heap.size v1 V) : V.ownsRow (w.heap.size + 2) 56 3 (.slice R n rc) n (pksV (rqs (reqD ipK p) n)) :=
  (Moves.of_below (S := fun _ => False) hb).row (hm.row h.row h.no) (fun _ _ => id)
theorem Ty.step {w wr v1 V w2 : World} {g a q r mc mt k n m rc : Nat} {R : Option Addr} {p : Ipp.Po} {x' : Sd ipK} {l : List Pk} {v' : Value} (h : Ty w wr g a q r mc mt k n p (.slice R n rc)) (hl : l.length = m) (hrun : Run r mc mt p (k + 1) (n + m) x') (hq : rqs (reqD ipK p) (n + m) = rqs (reqD ipK p) n ++ l)
    (hs : SAt ipK v1 g a q x') (hm : Moves (My g a q) wr v1) (hb : Below v1.heap.size v1 V) (hgr : V.grownBy w2 (Value.slice R n rc).ownBlock) (hown : w2.ownsRow (w.heap.size + 2) 56 3 v' (n + m) (pksV (rqs (reqD ipK p) n ++ l))) : Ty w w2 g a q r mc mt (k + 1) (n + m) p v' := by
  have hmg : Moves (fun j => (Value.slice R n rc).ownBlock = some j) V w2 := Moves.of_grown hgr (fun j e _ => e)
  have hV := h.row1 hm hb
  have hsV := hs.callee hb
  have hs2 : SAt ipK w2 g a q x' := hsV.moves hmg (fun j hj e => my_no hsV hV j e hj)
  have hc : Blk V w.heap.size [.int .i64 r, .int .i64 mc, .int .i64 mt] 34 := (h.conf.moves hm (fun e => by have := h.my _ e; omega)).callee hb
  refine ⟨⟨x', hrun, hs2⟩, ?_, h.my, by rw [hq]; exact hown, my_no hs2 hown, hc.moves hmg (fun e => cells_not_row (e := 56) hc (by decide) hV e)⟩
  have h1 : Below w.heap.size w V := (h.b.trans (hm.below h.b.size fun j hj => by have := h.my j hj; omega)).trans (hb.mono (Nat.le_trans h.b.size hm.size))
  refine h1.trans (hmg.below h1.size fun j hj => ?_)
  have := (hV.lt j hj).1
  omega
end Go.Proofs.YtikcgcgbcolndaaGreat.Neg
