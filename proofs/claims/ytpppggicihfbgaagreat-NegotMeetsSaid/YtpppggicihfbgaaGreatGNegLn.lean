/- Put together: NegLn, NegLm, NegLe. -/
import Derived.Test.YtpppggicihfbgaaGreatGNegIr
import Derived.Test.YtpppggicihfbgaaGreatGNegLc
import Derived.Test.YtpppggicihfbgaaGreatNegMx
import Derived.Test.YtpppggicihfbgaaGreatGPolN

/- Two sides of LCP of which each can do what the other one demands: what each makes of what the other one sends, packet by packet. -/
namespace Go.Proofs.YtpppggicihfbgaaGreat.Neg
open Go.RowKit Go.Proofs.YtpppggicihfbgaaGreat.Oct Go.Proofs.YtpppggicihfbgaaGreat.Row Go.Proofs.YtpppggicihfbgaaGreat.Mem Go.Proofs.YtpppggicihfbgaaGreat.Opt Go.Proofs.YtpppggicihfbgaaGreat.Fsm
open Go.Proofs.YtpppggicihfbgaaGreat.Aut (Au Aut Inv evA evE evX)

theorem tabN : nE 6 9 = 0 ∧ nA 6 9 = 80 ∧ nN 6 9 = 6 := by decide +kernel
theorem nak_step' {K : Kd} (R : Rn K) (hkn : ∀ c, 1 ≤ c → c ≤ 4 → Pkt.known K.proto c = true) {s : Sd K} {st : Nat} {p p' : K.α} {n : Nat} (h : Sx s st p n) (hs : st = 6 ∨ st = 8) (hn1 : n + 1 < 256) (i : UInt8) (hi : i.toNat = n) (l : List Opt) (hl : pE l = 0) (hb : ∀ d, R.b p d l = true) (hp : ∀ d, R.p p d l = p') :
    ∃ s', (∀ d, Gets K s s' ⟨3, i, bOf (enc l)⟩ [⟨1, UInt8.ofNat (n + 1), bOf (enc (K.req p'))⟩] d) ∧ Sx s' st p' (n + 1) := by
  obtain ⟨hst, hok, rfl, hn, has', hla⟩ := h
  obtain ⟨_, _, b1, b2, b3⟩ := tabQ
  obtain ⟨a1, a2, a3⟩ := tabN
  have hg := got_of hl
  have ev9 : evE s.x 9 = 0 ∧ evA s.x 9 = 80 ∧ (evX s.x 9).s = st ∧ has (evA s.x 9) 4096 = false := by
    rcases hs with rfl | rfl
    · exact ev_at hst (by decide) (by decide) a1 a2 a3 (by decide)
    · exact ev_at hst (by decide) (by decide) b1 b2 b3 (by decide)
  have hok' : K.ok p' := by rw [← hp 0]; exact R.ok _ _ _ hok.pol
  refine ⟨asks { s with x := evX s.x 9, p := p' }, fun d => ?_, ?_⟩
  · have hf : fol (⟨d.toNat, ⟨3, i, bOf (enc l)⟩, 0, []⟩ : In) 9 { s with p := R.p s.p d l } = (asks { s with x := evX s.x 9, p := p' }, [⟨1, UInt8.ofNat (n + 1), bOf (enc (K.req p'))⟩]) := by
      rw [hp d]
      have := fol_ask (K := K) (⟨d.toNat, ⟨3, i, bOf (enc l)⟩, 0, []⟩ : In) 9 { s with p := p' } (by show bitsTo (evA s.x 9) 13 = _; rw [ev9.2.1]; exact bits80)
      rw [show (({ s with p := p' } : Sd K).cnt + 1) % 256 = n + 1 from by show (s.cnt + 1) % 256 = _; rw [hn, Nat.mod_eq_of_lt hn1]] at this
      exact this
    have hg1 := hg.1
    have hg2 := hg.2
    refine pk_one hkn s (by omega) (by omega) ⟨3, i, bOf (enc l)⟩ d (by decide : (1 : Nat) ≤ 3) (by decide : (3 : Nat) ≤ 4) _ _ (told (evA s.x 9)) 0 false 48 rfl (fun g a q W hW hA => ?_)
    refine get_nak K g a q s ⟨d.toNat, ⟨3, i, bOf (enc l)⟩, 0, []⟩ none 0 0 W hW hA _ _ _ _ _ (fun U bx hU hA2 hx hm => ?_)
    have := nak_take K R d bx g a q s ⟨d.toNat, ⟨3, i, bOf (enc l)⟩, 0, []⟩ none 0 0 9 U hU hok (by omega) has' (by show i.toNat = s.last; rw [hi, hla]) hg1 (by show R.b s.p d (gL (bOf (enc l)).toList) = true; rw [hg2]; exact hb d) rfl hx hm hA2 (by decide : (0 : Nat) < 256) ev9.1 ev9.2.2.2
    rw [show gL (⟨d.toNat, ⟨3, i, bOf (enc l)⟩, 0, []⟩ : In).p.d.toList = l from hg2, hf] at this
    exact this
  · have e : (s.cnt + 1) % 256 = n + 1 := by rw [hn, Nat.mod_eq_of_lt hn1]
    unfold asks
    refine ⟨ev9.2.2.1, ⟨evX_inv hok.inv 9, hok', hok.m0, hok.m1, ?_, ?_⟩, rfl, e, rfl, e⟩
    · show (s.cnt + 1) % 256 < 256; omega
    · show (s.cnt + 1) % 256 < 256; omega

/-! ### policies -/
theorem lc_knows (c : Nat) (h1 : 1 ≤ c) (h2 : c ≤ 4) : Pkt.known lcK.proto c = true := by
  show Pkt.known 49185 c = true
  unfold Pkt.known
  simp
  omega
def Sp (s : Sd lcK) (st n : Nat) (c : Pol.Conf) (w mine peer : Lco.Lcp) (L : Nat) : Prop :=
  ∃ p : Pol.Po, Sx s st p n ∧ p.c = c ∧ p.w = w ∧ p.mine = mine ∧ p.peer = peer ∧ p.naks ≤ 1 ∧ p.loops ≤ L ∧ p.bad = false
theorem loop_le (p : Pol.Po) (l : List Opt) : (Pol.jP p l).loops ≤ p.loops + 1 := by
  have h : (Pol.loopP p l).loops ≤ p.loops + 1 := by
    unfold Pol.loopP
    split
    · exact Nat.le_refl _
    · exact Nat.le_succ _
  unfold Pol.jP
  repeat' split
  all_goals exact h
theorem lak_self (p : Pol.Po) : Pol.akB p (Pol.req p) = true ∧ Pol.akP p (Pol.req p) = { p with mine := p.w } := by
  have h : Pol.akB p (Pol.req p) = true := by unfold Pol.akB; simp
  refine ⟨h, ?_⟩
  unfold Pol.akP
  rw [if_pos h]
theorem badA_c {p q : Pol.Po} (h : p.c = q.c) (y : Lco.Lcp) : Pol.badA p y = Pol.badA q y := by unfold Pol.badA; rw [h]
theorem owns_w {p q : Pol.Po} (h : p.w = q.w) (y : Lco.Lcp) : Pol.owns p y = Pol.owns q y := by unfold Pol.owns; rw [h]
theorem sp_ack {s : Sd lcK} {st n L : Nat} {c : Pol.Conf} {w mine peer y : Lco.Lcp} (h : Sp s st n c w mine peer L) (hs : st = 6 ∨ st = 7) (hL : L ≤ 1000) (i : UInt8) (hy : Pol.Asks y) (hc : y.auth ≠ 0 → c.can ≠ 0) (hcl : c.can ≤ 3) (hm : 3 ≤ c.mn)
    (hb : ∀ p : Pol.Po, p.c = c → Pol.badA p y = false) (ho : ∀ p : Pol.Po, p.w = w → Pol.owns p y = false) :
    ∃ s', (∀ d, Gets lcK s s' ⟨1, i, bOf (enc (Lco.put y))⟩ [⟨2, i, bOf (enc (Lco.put y))⟩] d) ∧ Sp s' (if st = 6 then 8 else 9) n c w mine y (L + 1) := by
  obtain ⟨p, hx, rfl, rfl, rfl, rfl, hn, hl, hbad⟩ := h
  have hj := (Pol.jC_put p hy hc hcl (by omega)).1 ⟨hb p rfl, ho p rfl⟩
  obtain ⟨j1, j2, j3, j4, j5, j6, j7, j8⟩ := hj
  obtain ⟨s', g1, g2⟩ := req_step lcR lc_knows hx hs (show p.naks ≤ 1000 ∧ p.loops ≤ 1000000 by omega) i (Lco.put y) (lpe_put y) (by show pE (Pol.jA p (Lco.put y)) = 0; rw [j2]; exact lpe_put y)
  have e1 : lcR.jC p (Lco.put y) = 2 := j1
  have e2 : lcR.jA p (Lco.put y) = Lco.put y := j2
  rw [e1, e2] at g1
  rw [e1, if_pos rfl] at g2
  refine ⟨s', g1, Pol.jP p (Lco.put y), g2, j4, j3, j5, j7, by omega, ?_, by rw [j6]; exact hbad⟩
  have := loop_le p (Lco.put y)
  omega
theorem sp_nak {s : Sd lcK} {p : Pol.Po} {y : Lco.Lcp} (hx : Sx s 6 p 1) (h0 : p.naks = 0) (hl : p.loops = 0) (hbad : p.bad = false) (hy : Pol.Asks y) (hc : y.auth ≠ 0 → p.c.can ≠ 0) (hcl : p.c.can ≤ 3) (hm : 3 ≤ p.c.mn)
    (hb : Pol.badA p y = true) :
    ∃ s', (∀ d, Gets lcK s s' ⟨1, 1, bOf (enc (Lco.put y))⟩ [⟨3, 1, bOf (enc (Pol.insts (Pol.vs p (Lco.put y))))⟩] d) ∧ Sp s' 6 1 p.c p.w p.mine p.peer 1 := by
  have hj := (Pol.jC_put p hy hc hcl (by omega)).2 (fun e => by rw [hb] at e; exact absurd e.1 (by decide))
  obtain ⟨j1, j2, j3, j4, j5, j6, j7, j8⟩ := hj
  have hp : pE (Pol.insts (Pol.vs p (Lco.put y))) = 0 := by
    rw [(Pol.insts_put p hy hc hcl).2.2, ← Pol.nakZ_put]; exact lpe_put _
  obtain ⟨s', g1, g2⟩ := req_step lcR lc_knows hx (.inl rfl) (show p.naks ≤ 1000 ∧ p.loops ≤ 1000000 by omega) 1 (Lco.put y) (lpe_put y) (by show pE (Pol.jA p (Lco.put y)) = 0; rw [j2]; exact hp)
  have e1 : lcR.jC p (Lco.put y) = 3 := j1
  have e2 : lcR.jA p (Lco.put y) = Pol.insts (Pol.vs p (Lco.put y)) := j2
  rw [e1, e2] at g1
  rw [e1, if_neg (by decide)] at g2
  refine ⟨s', g1, Pol.jP p (Lco.put y), g2, j4, j3, j5, j7, by omega, ?_, by rw [j6]; exact hbad⟩
  have := loop_le p (Lco.put y)
  omega
theorem sp_got {s : Sd lcK} {st n L : Nat} {c : Pol.Conf} {w mine peer : Lco.Lcp} (h : Sp s st n c w mine peer L) (hs : st = 6 ∨ st = 8) (i : UInt8) (hi : i.toNat = n) :
    ∃ s', (∀ d, Gets lcK s s' ⟨2, i, bOf (enc (Lco.put w))⟩ [] d) ∧ Sp s' (st + 1) n c w w peer L := by
  obtain ⟨p, hx, rfl, rfl, rfl, rfl, hn, hl, hbad⟩ := h
  obtain ⟨s', g1, g2⟩ := ack_step lcA lc_knows hx hs i hi (Lco.put p.w) (lpe_put p.w) (lak_self p).1
  have e : lcA.p p (Lco.put p.w) = { p with mine := p.w } := (lak_self p).2
  rw [e] at g2
  exact ⟨s', g1, _, g2, rfl, rfl, rfl, rfl, hn, hl, hbad⟩
def bh (c : Pol.Conf) (w : Lco.Lcp) (p : Pol.Po) : Lco.Lcp := { w with auth := if Pol.badA p w && c.takes &&& Pol.kindA p != 0 then Pol.kindA p else w.auth }
theorem bh_behind (q p : Pol.Po) (d : UInt32) (ho : Pol.owns p q.w = false) : Pol.behind q p d = bh q.c q.w p := by
  unfold Pol.behind bh
  rw [ho]; rfl
theorem sp_naked {s : Sd lcK} {st L : Nat} {c : Pol.Conf} {w mine peer : Lco.Lcp} (h : Sp s st 1 c w mine peer L) (hs : st = 6 ∨ st = 8) (r : Pol.Po) (hy : Pol.Asks w) (hc : w.auth ≠ 0 → r.c.can ≠ 0) (hcl : r.c.can ≤ 3) (hb : Pol.badA r w = true) (ho : Pol.owns r w = false) :
    ∃ s', (∀ d, Gets lcK s s' ⟨3, 1, bOf (enc (Pol.insts (Pol.vs r (Lco.put w))))⟩ [⟨1, 2, bOf (enc (Lco.put (bh c w r)))⟩] d) ∧ Sp s' st 2 c (bh c w r) mine peer L := by
  obtain ⟨p, hx, rfl, rfl, rfl, rfl, hn, hl, hbad⟩ := h
  have hk := fun d => Pol.nk_put p r d hy hc hcl (fun e => by rw [hb] at e; exact absurd e.1 (by decide))
  have hp : pE (Pol.insts (Pol.vs r (Lco.put p.w))) = 0 := by
    rw [(Pol.insts_put r hy hc hcl).2.2, ← Pol.nakZ_put]; exact lpe_put _
  obtain ⟨s', g1, g2⟩ := nak_step' lcN lc_knows hx hs (by decide) 1 rfl (Pol.insts (Pol.vs r (Lco.put p.w))) hp (fun d => (hk d).1) (p' := { p with w := bh p.c p.w r }) (fun d => by
    have := (hk d).2
    rw [bh_behind p r d ho] at this
    exact this)
  exact ⟨s', g1, _, g2, rfl, rfl, rfl, rfl, hn, hl, hbad⟩
end Go.Proofs.YtpppggicihfbgaaGreat.Neg

/- Two sides of LCP come to terms: the tables of what each makes of what the other one sends. -/
namespace Go.Proofs.YtpppggicihfbgaaGreat.Neg
open Go.RowKit Go.Proofs.YtpppggicihfbgaaGreat.Oct Go.Proofs.YtpppggicihfbgaaGreat.Row Go.Proofs.YtpppggicihfbgaaGreat.Mem Go.Proofs.YtpppggicihfbgaaGreat.Opt Go.Proofs.YtpppggicihfbgaaGreat.Fsm

theorem net_two {K : Kd} (a0 a1 a2 b0 b1 b2 : Sd K) (ra acka rb ackb : Pk)
    (hA1 : ∀ d, Gets K a0 a1 rb [acka] d) (hA2 : ∀ d, Gets K a1 a2 ackb [] d)
    (hB1 : ∀ d, Gets K b0 b1 ra [ackb] d) (hB2 : ∀ d, Gets K b1 b2 acka [] d) :
    ∃ T : Net K, T.SA 0 = a0 ∧ T.SB 0 = b0 ∧ T.SA T.N = a2 ∧ T.SB T.N = b2 ∧ T.OA.take 1 = [ra] ∧ T.OB.take 1 = [rb] := by
  refine ⟨⟨2, by decide, fun i => match i with | 0 => a0 | 1 => a1 | _ => a2, fun i => match i with | 0 => b0 | 1 => b1 | _ => b2, [ra, acka], [rb, ackb],
    fun i => match i with | 0 => 1 | _ => 2, fun i => match i with | 0 => 1 | _ => 2, rfl, rfl, ?_, ?_, rfl, rfl, ?_, ?_, ?_⟩, rfl, rfl, rfl, rfl, rfl, rfl⟩
  · intro i h
    match i, h with
    | 0, _ => decide
    | 1, _ => decide
  · intro i h
    match i, h with
    | 0, _ => decide
    | 1, _ => decide
  · intro i h d
    match i, h with
    | 0, _ => exact hA1 d
    | 1, _ => exact hA2 d
  · intro i h d
    match i, h with
    | 0, _ => exact hB1 d
    | 1, _ => exact hB2 d
  · intro i j hi hj
    match i, hi, j, hj with
    | 0, _, 0, _ => simp
    | 0, _, 1, _ => simp
    | 0, _, 2, _ => simp
    | 1, _, 0, _ => simp
    | 1, _, 1, _ => simp
    | 1, _, 2, _ => simp
    | 2, _, 0, _ => simp
    | 2, _, 1, _ => simp
    | 2, _, 2, _ => simp
theorem net_both {K : Kd} (a0 a1 a2 a3 a4 b0 b1 b2 b3 b4 : Sd K) (ra repa ra2 acka rb repb rb2 ackb : Pk)
    (hA1 : ∀ d, Gets K a0 a1 rb [repa] d) (hA2 : ∀ d, Gets K a1 a2 repb [ra2] d) (hA3 : ∀ d, Gets K a2 a3 rb2 [acka] d) (hA4 : ∀ d, Gets K a3 a4 ackb [] d)
    (hB1 : ∀ d, Gets K b0 b1 ra [repb] d) (hB2 : ∀ d, Gets K b1 b2 repa [rb2] d) (hB3 : ∀ d, Gets K b2 b3 ra2 [ackb] d) (hB4 : ∀ d, Gets K b3 b4 acka [] d) :
    ∃ T : Net K, T.SA 0 = a0 ∧ T.SB 0 = b0 ∧ T.SA T.N = a4 ∧ T.SB T.N = b4 ∧ T.OA.take 1 = [ra] ∧ T.OB.take 1 = [rb] := by
  refine ⟨⟨4, by decide, fun i => match i with | 0 => a0 | 1 => a1 | 2 => a2 | 3 => a3 | _ => a4, fun i => match i with | 0 => b0 | 1 => b1 | 2 => b2 | 3 => b3 | _ => b4, [ra, repa, ra2, acka], [rb, repb, rb2, ackb],
    fun i => match i with | 0 => 1 | 1 => 2 | 2 => 3 | _ => 4, fun i => match i with | 0 => 1 | 1 => 2 | 2 => 3 | _ => 4, rfl, rfl, ?_, ?_, rfl, rfl, ?_, ?_, ?_⟩, rfl, rfl, rfl, rfl, rfl, rfl⟩
  · intro i h
    match i, h with
    | 0, _ => decide
    | 1, _ => decide
    | 2, _ => decide
    | 3, _ => decide
  · intro i h
    match i, h with
    | 0, _ => decide
    | 1, _ => decide
    | 2, _ => decide
    | 3, _ => decide
  · intro i h d
    match i, h with
    | 0, _ => exact hA1 d
    | 1, _ => exact hA2 d
    | 2, _ => exact hA3 d
    | 3, _ => exact hA4 d
  · intro i h d
    match i, h with
    | 0, _ => exact hB1 d
    | 1, _ => exact hB2 d
    | 2, _ => exact hB3 d
    | 3, _ => exact hB4 d
  · intro i j hi hj
    match i, hi, j, hj with
    | 0, _, 0, _ => simp
    | 0, _, 1, _ => simp
    | 0, _, 2, _ => simp
    | 0, _, 3, _ => simp
    | 0, _, 4, _ => simp
    | 1, _, 0, _ => simp
    | 1, _, 1, _ => simp
    | 1, _, 2, _ => simp
    | 1, _, 3, _ => simp
    | 1, _, 4, _ => simp
    | 2, _, 0, _ => simp
    | 2, _, 1, _ => simp
    | 2, _, 2, _ => simp
    | 2, _, 3, _ => simp
    | 2, _, 4, _ => simp
    | 3, _, 0, _ => simp
    | 3, _, 1, _ => simp
    | 3, _, 2, _ => simp
    | 3, _, 3, _ => simp
    | 3, _, 4, _ => simp
    | 4, _, 0, _ => simp
    | 4, _, 1, _ => simp
    | 4, _, 2, _ => simp
    | 4, _, 3, _ => simp
    | 4, _, 4, _ => simp
def Net.swap {K : Kd} (T : Net K) : Net K := ⟨T.N, T.hN, T.SB, T.SA, T.OB, T.OA, T.sB, T.sA, T.lB, T.lA, T.mB, T.mA, T.b0, T.a0, T.hB, T.hA, fun i j hi hj h1 h2 => (T.live j i hj hi h2 h1).symm⟩

structure Two (A B : Pol.Po) : Prop where
  nA : A.naks = 0
  lA : A.loops = 0
  bA : A.bad = false
  aA : Pol.Asks A.w
  cA : A.w.auth ≠ 0 → B.c.can ≠ 0 ∧ (B.c.can = 3 ∨ A.c.takes &&& B.c.can ≠ 0)
  kA : A.c.can ≤ 3
  mA : 3 ≤ A.c.mn
  oA : Pol.owns B A.w = false
  nB : B.naks = 0
  lB : B.loops = 0
  bB : B.bad = false
  aB : Pol.Asks B.w
  cB : B.w.auth ≠ 0 → A.c.can ≠ 0 ∧ (A.c.can = 3 ∨ B.c.takes &&& A.c.can ≠ 0)
  kB : B.c.can ≤ 3
  mB : 3 ≤ B.c.mn
  oB : Pol.owns A B.w = false
theorem Two.symm {A B : Pol.Po} (h : Two A B) : Two B A := ⟨h.nB, h.lB, h.bB, h.aB, h.cB, h.kB, h.mB, h.oB, h.nA, h.lA, h.bA, h.aA, h.cA, h.kA, h.mA, h.oA⟩
def wF (A B : Pol.Po) : Lco.Lcp := if Pol.badA B A.w = true then bh A.c A.w B else A.w
theorem Two.start {A B : Pol.Po} {s : Sd lcK} (h : Two A B) (hx : Sx s 6 A 1) : Sp s 6 1 A.c A.w A.mine A.peer 0 := ⟨A, hx, rfl, rfl, rfl, rfl, by have := h.nA; omega, by have := h.lA; omega, h.bA⟩
theorem Two.bhA {A B : Pol.Po} (h : Two A B) : Pol.Asks (bh A.c A.w B) ∧ Pol.badA B (bh A.c A.w B) = false := by
  have h1 := Pol.behind_asks A B 0 h.aA h.kB h.cA
  rw [bh_behind A B 0 h.oA] at h1
  exact h1
theorem Two.canA {A B : Pol.Po} (h : Two A B) : A.w.auth ≠ 0 → B.c.can ≠ 0 := fun e => (h.cA e).1
theorem bh_can {A B : Pol.Po} (h : Two A B) (hb : Pol.badA B A.w = true) : B.c.can ≠ 0 := h.canA (by
  unfold Pol.badA at hb
  rw [Bool.and_eq_true] at hb
  simpa using hb.1)
theorem owns_of {p A B : Pol.Po} {y : Lco.Lcp} (h1 : p.w.hg = A.w.hg) (h2 : p.w.magic = A.w.magic) (h3 : y.hg = B.w.hg) (h4 : y.magic = B.w.magic) : Pol.owns p y = Pol.owns A B.w := by
  unfold Pol.owns
  rw [h1, h2, h3, h4]
theorem net_none {A B : Pol.Po} (h : Two A B) {a0 b0 : Sd lcK} (ha : Sx a0 6 A 1) (hb : Sx b0 6 B 1) (h1 : Pol.badA B A.w = false) (h2 : Pol.badA A B.w = false) :
    ∃ T : Net lcK, T.SA 0 = a0 ∧ T.SB 0 = b0 ∧ T.OA.take 1 = [⟨1, 1, reqD lcK A⟩] ∧ T.OB.take 1 = [⟨1, 1, reqD lcK B⟩] ∧ ∃ n m L M, Sp (T.SA T.N) 9 n A.c A.w A.w B.w L ∧ Sp (T.SB T.N) 9 m B.c B.w B.w A.w M := by
  obtain ⟨a1, gA1, xA1⟩ := sp_ack (h.start ha) (.inl rfl) (by decide) 1 h.aB h.symm.canA h.kA h.mA (fun p e => by rw [badA_c e]; exact h2) (fun p e => by rw [owns_w e]; exact h.oB)
  obtain ⟨b1, gB1, xB1⟩ := sp_ack (h.symm.start hb) (.inl rfl) (by decide) 1 h.aA h.canA h.kB h.mB (fun p e => by rw [badA_c e]; exact h1) (fun p e => by rw [owns_w e]; exact h.oA)
  rw [if_pos rfl] at xA1 xB1
  obtain ⟨a2, gA2, xA2⟩ := sp_got xA1 (.inr rfl) 1 rfl
  obtain ⟨b2, gB2, xB2⟩ := sp_got xB1 (.inr rfl) 1 rfl
  obtain ⟨T, t1, t2, t3, t4, t5, t6⟩ := net_two a0 a1 a2 b0 b1 b2 ⟨1, 1, reqD lcK A⟩ _ ⟨1, 1, reqD lcK B⟩ _ gA1 gA2 gB1 gB2
  exact ⟨T, t1, t2, t5, t6, _, _, _, _, by rw [t3]; exact xA2, by rw [t4]; exact xB2⟩
theorem net_one {A B : Pol.Po} (h : Two A B) {a0 b0 : Sd lcK} (ha : Sx a0 6 A 1) (hb : Sx b0 6 B 1) (h1 : Pol.badA B A.w = false) (h2 : Pol.badA A B.w = true) :
    ∃ T : Net lcK, T.SA 0 = a0 ∧ T.SB 0 = b0 ∧ T.OA.take 1 = [⟨1, 1, reqD lcK A⟩] ∧ T.OB.take 1 = [⟨1, 1, reqD lcK B⟩] ∧ ∃ n m L M, Sp (T.SA T.N) 9 n A.c A.w A.w (bh B.c B.w A) L ∧ Sp (T.SB T.N) 9 m B.c (bh B.c B.w A) (bh B.c B.w A) A.w M := by
  obtain ⟨a1, gA1, xA1⟩ := sp_nak ha h.nA h.lA h.bA h.aB h.symm.canA h.kA h.mA h2
  obtain ⟨b1, gB1, xB1⟩ := sp_ack (h.symm.start hb) (.inl rfl) (by decide) 1 h.aA h.canA h.kB h.mB (fun p e => by rw [badA_c e]; exact h1) (fun p e => by rw [owns_w e]; exact h.oA)
  rw [if_pos rfl] at xB1
  obtain ⟨a2, gA2, xA2⟩ := sp_got xA1 (.inl rfl) 1 rfl
  obtain ⟨b2, gB2, xB2⟩ := sp_naked xB1 (.inr rfl) A h.aB h.symm.canA h.kA h2 h.oB
  obtain ⟨a3, gA3, xA3⟩ := sp_ack xA2 (.inr rfl) (by decide) 2 h.symm.bhA.1 (fun _ => bh_can h.symm h2) h.kA h.mA (fun p e => by rw [badA_c e]; exact h.symm.bhA.2) (fun p e => by rw [owns_of (A := A) (B := B) (y := bh B.c B.w A) (by rw [e]) (by rw [e]) rfl rfl]; exact h.oB)
  rw [if_neg (by decide)] at xA3
  obtain ⟨b3, gB3, xB3⟩ := sp_got xB2 (.inr rfl) 2 rfl
  obtain ⟨T, t1, t2, t3, t4, t5, t6⟩ := net_three a0 a1 a2 a3 b0 b1 b2 b3 ⟨1, 1, reqD lcK A⟩ _ _ ⟨1, 1, reqD lcK B⟩ _ _ gA1 gA2 gA3 gB1 gB2 gB3
  exact ⟨T, t1, t2, t5, t6, _, _, _, _, by rw [t3]; exact xA3, by rw [t4]; exact xB3⟩
theorem net_all {A B : Pol.Po} (h : Two A B) {a0 b0 : Sd lcK} (ha : Sx a0 6 A 1) (hb : Sx b0 6 B 1) (h1 : Pol.badA B A.w = true) (h2 : Pol.badA A B.w = true) :
    ∃ T : Net lcK, T.SA 0 = a0 ∧ T.SB 0 = b0 ∧ T.OA.take 1 = [⟨1, 1, reqD lcK A⟩] ∧ T.OB.take 1 = [⟨1, 1, reqD lcK B⟩] ∧ ∃ n m L M, Sp (T.SA T.N) 9 n A.c (bh A.c A.w B) (bh A.c A.w B) (bh B.c B.w A) L ∧ Sp (T.SB T.N) 9 m B.c (bh B.c B.w A) (bh B.c B.w A) (bh A.c A.w B) M := by
  obtain ⟨a1, gA1, xA1⟩ := sp_nak ha h.nA h.lA h.bA h.aB h.symm.canA h.kA h.mA h2
  obtain ⟨b1, gB1, xB1⟩ := sp_nak hb h.nB h.lB h.bB h.aA h.canA h.kB h.mB h1
  obtain ⟨a2, gA2, xA2⟩ := sp_naked xA1 (.inl rfl) B h.aA h.canA h.kB h1 h.oA
  obtain ⟨b2, gB2, xB2⟩ := sp_naked xB1 (.inl rfl) A h.aB h.symm.canA h.kA h2 h.oB
  obtain ⟨a3, gA3, xA3⟩ := sp_ack xA2 (.inl rfl) (by decide) 2 h.symm.bhA.1 (fun _ => bh_can h.symm h2) h.kA h.mA (fun p e => by rw [badA_c e]; exact h.symm.bhA.2) (fun p e => by rw [owns_of (A := A) (B := B) (y := bh B.c B.w A) (by rw [e]; rfl) (by rw [e]; rfl) rfl rfl]; exact h.oB)
  obtain ⟨b3, gB3, xB3⟩ := sp_ack xB2 (.inl rfl) (by decide) 2 h.bhA.1 (fun _ => bh_can h h1) h.kB h.mB (fun p e => by rw [badA_c e]; exact h.bhA.2) (fun p e => by rw [owns_of (A := B) (B := A) (y := bh A.c A.w B) (by rw [e]; rfl) (by rw [e]; rfl) rfl rfl]; exact h.oA)
  rw [if_pos rfl] at xA3 xB3
  obtain ⟨a4, gA4, xA4⟩ := sp_got xA3 (.inr rfl) 2 rfl
  obtain ⟨b4, gB4, xB4⟩ := sp_got xB3 (.inr rfl) 2 rfl
  obtain ⟨T, t1, t2, t3, t4, t5, t6⟩ := net_both a0 a1 a2 a3 a4 b0 b1 b2 b3 b4 ⟨1, 1, reqD lcK A⟩ _ _ _ ⟨1, 1, reqD lcK B⟩ _ _ _ gA1 gA2 gA3 gA4 gB1 gB2 gB3 gB4
  exact ⟨T, t1, t2, t5, t6, _, _, _, _, by rw [t3]; exact xA4, by rw [t4]; exact xB4⟩
theorem lcp_net {A B : Pol.Po} (h : Two A B) {a0 b0 : Sd lcK} (ha : Sx a0 6 A 1) (hb : Sx b0 6 B 1) :
    ∃ T : Net lcK, T.SA 0 = a0 ∧ T.SB 0 = b0 ∧ T.OA.take 1 = [⟨1, 1, reqD lcK A⟩] ∧ T.OB.take 1 = [⟨1, 1, reqD lcK B⟩] ∧ ∃ n m L M, Sp (T.SA T.N) 9 n A.c (wF A B) (wF A B) (wF B A) L ∧ Sp (T.SB T.N) 9 m B.c (wF B A) (wF B A) (wF A B) M := by
  unfold wF
  by_cases h1 : Pol.badA B A.w = true
  · by_cases h2 : Pol.badA A B.w = true
    · rw [if_pos h1, if_pos h2]; exact net_all h ha hb h1 h2
    · rw [if_pos h1, if_neg h2]
      have h2' : Pol.badA A B.w = false := by simpa using h2
      obtain ⟨T, t1, t2, t3, t4, n, m, L, M, x1, x2⟩ := net_one h.symm hb ha h2' h1
      exact ⟨T.swap, t2, t1, t4, t3, m, n, M, L, x2, x1⟩
  · have h1' : Pol.badA B A.w = false := by simpa using h1
    by_cases h2 : Pol.badA A B.w = true
    · rw [if_neg h1, if_pos h2]; exact net_one h ha hb h1' h2
    · have h2' : Pol.badA A B.w = false := by simpa using h2
      rw [if_neg h1, if_neg h2]; exact net_none h ha hb h1' h2'
end Go.Proofs.YtpppggicihfbgaaGreat.Neg

/- Two confs of which each can do what the other one demands: what both ask for in the end. Plain mathematics. -/
namespace Go.Proofs.YtpppggicihfbgaaGreat.Neg
open Go.RowKit Go.Proofs.YtpppggicihfbgaaGreat.Oct Go.Proofs.YtpppggicihfbgaaGreat.Row Go.Proofs.YtpppggicihfbgaaGreat.Mem Go.Proofs.YtpppggicihfbgaaGreat.Opt Go.Proofs.YtpppggicihfbgaaGreat.Fsm
open Go.Proofs.YtpppggicihfbgaaGreat.Pol (Conf mayC canB newP wish nz fits fin Agr)

theorem may_can {c : Conf} (h : mayC c = true) : c.can ≤ 3 ∧ c.auth ≤ 2 ∧ fits c.auth c.takes = true := by
  unfold mayC at h
  simp only [Bool.and_eq_true, decide_eq_true_eq] at h
  obtain ⟨⟨⟨⟨⟨⟨⟨_, _⟩, h3⟩, _⟩, h5⟩, h6⟩, _⟩, _⟩ := h
  exact ⟨h5, h3, h6⟩
theorem can_of {c d : Conf} (h : canB d c = true) (h0 : c.auth ≠ 0) : d.can ≠ 0 ∧ (d.can = 3 ∨ c.takes &&& d.can ≠ 0) := by
  unfold canB at h
  have e : (c.auth == 0) = false := by rw [beq_eq_false_iff_ne]; exact h0
  rw [e, Bool.false_or, Bool.and_eq_true, Bool.or_eq_true, bne_iff_ne, beq_iff_eq, bne_iff_ne] at h
  exact h
theorem two_of {c d : Conf} {m n : UInt32} (hc : mayC c = true) (hd : mayC d = true) (h1 : canB c d = true) (h2 : canB d c = true) (m1 : 3 ≤ c.mn) (m2 : 3 ≤ d.mn) (hz : nz m ≠ nz n) : Two (newP c m) (newP d n) := by
  have key : ∀ (c d : Conf) (m n : UInt32), nz m ≠ nz n → Pol.owns (newP d n) (newP c m).w = false := by
    intro c d m n hz
    show (c.mg && (d.mg && (if c.mg then nz m else 0) == (if d.mg then nz n else 0))) = false
    cases c.mg
    · rfl
    · cases d.mg
      · rfl
      · show (nz m == nz n) = false
        rw [beq_eq_false_iff_ne]; exact hz
  exact ⟨rfl, rfl, rfl, Pol.asks_wish m hc, fun e => can_of h2 e, (may_can hc).1, m1, key c d m n hz, rfl, rfl, rfl, Pol.asks_wish n hd, fun e => can_of h1 e, (may_can hd).1, m2, key d c n m (fun e => hz e.symm)⟩
theorem ends_of {c d : Conf} {m n : UInt32} (h : Two (newP c m) (newP d n)) (hc : mayC c = true) (hd : mayC d = true) : ∃ au mag, wF (newP c m) (newP d n) = fin c au mag ∧ Agr c d au ∧ mag = (wish c m).magic := by
  obtain ⟨k1, k2, k3⟩ := may_can hc
  have l1 := (may_can hd).1
  unfold wF
  by_cases hb : Pol.badA (newP d n) (newP c m).w = true
  · rw [if_pos hb]
    have h0 : c.auth ≠ 0 := by
      have hb' := hb
      unfold Pol.badA at hb'
      rw [Bool.and_eq_true] at hb'
      have h3 : (newP c m).w.auth ≠ 0 := by simpa using hb'.1
      exact h3
    have hcan := h.cA h0
    have ht : c.takes &&& Pol.kindA (newP d n) ≠ 0 := Pol.kind_takes (p := newP d n) (y := (newP c m).w) l1 k2 hb hcan.1 hcan.2
    have htb : (c.takes &&& Pol.kindA (newP d n) != 0) = true := by simpa using ht
    refine ⟨Pol.kindA (newP d n), (wish c m).magic, ?_, ?_, rfl⟩
    · unfold bh
      show ({ (wish c m) with auth := if Pol.badA (newP d n) (newP c m).w && c.takes &&& Pol.kindA (newP d n) != 0 then Pol.kindA (newP d n) else c.auth } : Lco.Lcp) = _
      rw [hb, htb]; rfl
    · have hk : (d.can &&& Pol.kindA (newP d n) != 0) = true := by
        by_cases e : (d.can &&& Pol.kindA (newP d n) != 0) = true
        · exact e
        · have e2 : (d.can &&& Pol.kindA (newP d n) != 0) = false := by simpa using e
          exact absurd (Pol.kind_can (p := newP d n) e2 l1) hcan.1
      have hk2 : Pol.kindA (newP d n) = 2 ∨ Pol.kindA (newP d n) = 1 := by unfold Pol.kindA; split; exact .inl rfl; exact .inr rfl
      rcases hk2 with e | e
      · rw [e] at htb hk ⊢
        exact .inr (.inl ⟨h0, rfl, htb, hk⟩)
      · rw [e] at htb hk ⊢
        exact .inr (.inr ⟨h0, rfl, htb, hk⟩)
  · rw [if_neg hb]
    refine ⟨c.auth, (wish c m).magic, rfl, ?_, rfl⟩
    by_cases h0 : c.auth = 0
    · exact .inl ⟨h0, h0⟩
    · have hb' : Pol.badA (newP d n) (newP c m).w = false := by simpa using hb
      unfold Pol.badA at hb'
      have h0' : (c.auth != 0) = true := by simpa using h0
      have hd2 : (d.can &&& c.auth != 0) = true := by
        have e : (c.auth != 0 && !(d.can &&& c.auth != 0)) = false := hb'
        rw [h0', Bool.true_and] at e
        simpa using e
      have ht : (c.takes &&& c.auth != 0) = true := by
        unfold fits at k3
        rw [if_neg h0] at k3
        exact k3
      rcases Pol.le_two k2 with e | e | e
      · exact absurd e h0
      · rw [e] at hd2 ht
        exact .inr (.inr ⟨h0, e, ht, hd2⟩)
      · rw [e] at hd2 ht
        exact .inr (.inl ⟨h0, e, ht, hd2⟩)
theorem ends_differ {c d : Conf} {m n : UInt32} (h : Two (newP c m) (newP d n)) : (c.mg && (d.mg && ((wish c m).magic == (wish d n).magic))) = false := h.oA
theorem magic_u32 (a b : UInt32) : ((a.toNat : Int) == b.toNat) = (a == b) := by
  rw [Bool.eq_iff_iff, beq_iff_eq, beq_iff_eq]
  exact ⟨fun e => UInt32.toNat_inj.1 (by omega), fun e => by rw [e]⟩
end Go.Proofs.YtpppggicihfbgaaGreat.Neg
