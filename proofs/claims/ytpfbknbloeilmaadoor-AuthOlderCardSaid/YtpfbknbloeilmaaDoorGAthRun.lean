/- Put together: AthRun, AthTwo, AthTick, AthOld. -/
import Derived.Test.YtpfbknbloeilmaaDoorAthMx

/- A server and a client that talk, round by round: with one secret both are done, and stay so; with two the server never is. Plain mathematics. -/
namespace Go.Proofs.YtpfbknbloeilmaaDoor.Ath
open Go.RowKit Go.Proofs.YtpfbknbloeilmaaDoor.Oct Go.Proofs.YtpfbknbloeilmaaDoor.Row Go.Proofs.YtpfbknbloeilmaaDoor.Md5 Go.Proofs.YtpfbknbloeilmaaDoor.Mem

/-- The two, and what is on the way. -/
structure Rn where
  s : Sv
  c : Cl
  up : List Pk
  down : List Pk
/-- All that is on the way comes, or is lost. -/
def hop (secret : ByteArray) (b : Bool) (x : Rn) : Rn :=
  if b then ⟨x.up.foldl (fun s p => packS s p secret true) x.s, x.down.foldl cpackS x.c, (match x.down with | [] => [] | p :: _ => (cpackO x.c p).pkts), (match x.up with | [] => [] | p :: _ => (packO x.s p secret true).pkts)⟩
  else ⟨x.s, x.c, [], []⟩
/-- What is known of a pair. -/
structure Pr (x : Rn) (name one : ByteArray) : Prop where
  cf : x.c.c = x.s.c
  hn : x.c.name = name
  ho : x.c.secret = one
  n255 : name.size ≤ 255
  o255 : one.size ≤ 255
  own : x.s.own.size ≤ 255
  may : mayC x.s.c = true
theorem Pr.pos {x : Rn} {name one : ByteArray} (h : Pr x name one) : 1 ≤ x.s.c.tries ∧ 1 ≤ x.s.c.wait ∧ 0 ≤ x.s.c.again := by
  have h1 := h.may
  unfold mayC at h1
  simp only [Bool.and_eq_true, decide_eq_true_eq] at h1
  obtain ⟨⟨⟨⟨⟨⟨_, h2⟩, _⟩, h3⟩, _⟩, h4⟩, _⟩ := h1
  exact ⟨h2, h3, h4⟩
theorem pkO_ok {E : Int} (h : E = 0) (c i : UInt8) (d : ByteArray) : pkO E c i d = ⟨c, i, d⟩ := by rw [pkO, if_pos h]
theorem reqP_is {x : Rn} {name one : ByteArray} (h : Pr x name one) : reqP x.c = ⟨1, x.c.id + 1, joinS [name, one]⟩ := by
  unfold reqP
  rw [h.hn, h.ho, pkO_ok (join_small h.n255 h.o255)]
theorem chalP_is {s : Sv} (h1 : 1 ≤ s.value.size) (h2 : s.value.size ≤ 255) (h3 : s.own.size ≤ 255) : chalP s = ⟨1, s.id + 1, Chp.vn s.value s.own⟩ := by
  unfold chalP
  rw [pkO_ok]
  rw [Chp.chE, if_neg (by omega), if_neg (by omega)]
theorem chE_ok {v n : ByteArray} (h1 : 1 ≤ v.size) (h2 : v.size ≤ 255) (h3 : n.size ≤ 255) : Chp.chE v n = 0 := by rw [Chp.chE, if_neg (by omega), if_neg (by omega)]

/-! ### one secret -/
/-- A good packet, while it is busy, or done with this name. -/
theorem packS_good {s : Sv} {p : Pk} {secret : ByteArray} (hc : claims s p = true) (hw : well s p secret = true) :
    packS s p secret true = { s with opn := false, last := p, reply := ans s.c p.i true, clock := s.c.again, st := if s.st = 1 then 2 else s.st, who := if s.st = 1 then nameIn s p else s.who } ∧ (packO s p secret true).pkts = [ans s.c p.i true] := by
  unfold packS packO
  rw [if_pos hc, if_pos hc, hw]
  exact ⟨rfl, rfl⟩
/-- Both are done, nothing is open. -/
structure Dn (x : Rn) (name one : ByteArray) : Prop where
  pr : Pr x name one
  ss : x.s.st = 2
  cs : x.c.st = 2
  who : x.s.who = name
  shut : x.s.opn = false
/-- Three hops of PAP from its first request, or of CHAP from a challenge: both are done. -/
theorem same_pap {x : Rn} {name one : ByteArray} (h : Pr x name one) (hp : pap x.s.c = true) (hs : x.s.st = 1) (hc : x.c.st = 1) (hu : x.up = [⟨1, x.c.id, joinS [name, one]⟩]) (hd : x.down = []) (ho : x.s.opn = false) :
    Dn (hop one true (hop one true x)) name one ∧ (hop one true x).up = [] ∧ (hop one true x).down = [ans x.s.c x.c.id true] ∧ (hop one true (hop one true x)).up = [] ∧ (hop one true (hop one true x)).down = [] := by
  obtain ⟨s, c, up, down⟩ := x
  simp only at hp hs hc hu hd ho
  subst hu hd
  obtain ⟨k1, k2, k3⟩ := pap_claims hp hs h.n255 h.o255 c.id
  have hg := packS_good k1 (by rw [k3 one]; exact decide_eq_true rfl)
  have hcf : c.c = s.c := h.cf
  have e1 : hop one true ⟨s, c, [⟨1, c.id, joinS [name, one]⟩], []⟩ = ⟨packS s ⟨1, c.id, joinS [name, one]⟩ one true, c, [], [ans s.c c.id true]⟩ := by
    unfold hop
    simp only [if_true, List.foldl_cons, List.foldl_nil]
    rw [hg.2]
  have ha := ans_pap (s := c) (by rw [hcf]; exact hp) hc true
  rw [hcf] at ha
  have e2 : hop one true ⟨packS s ⟨1, c.id, joinS [name, one]⟩ one true, c, [], [ans s.c c.id true]⟩ = ⟨packS s ⟨1, c.id, joinS [name, one]⟩ one true, { c with st := 2 }, [], []⟩ := by
    unfold hop cpackS cpackO
    simp only [if_true, List.foldl_cons, List.foldl_nil, ha.1, ha.2]
    rw [if_neg (by decide), if_neg (by decide)]
  rw [e1, e2]
  refine ⟨⟨⟨?_, h.hn, h.ho, h.n255, h.o255, ?_, ?_⟩, ?_, rfl, ?_, ?_⟩, rfl, rfl, rfl, rfl⟩
  · show c.c = (packS _ _ _ _).c; rw [hg.1]; exact hcf
  · show (packS _ _ _ _).own.size ≤ 255; rw [hg.1]; exact h.own
  · show mayC (packS _ _ _ _).c = true; rw [hg.1]; exact h.may
  · show (packS _ _ _ _).st = 2; rw [hg.1]; show (if s.st = 1 then 2 else s.st) = 2; rw [if_pos hs]
  · show (packS _ _ _ _).who = name; rw [hg.1]; show (if s.st = 1 then _ else _) = name; rw [if_pos hs, k2]
  · show (packS _ _ _ _).opn = false; rw [hg.1]
theorem same_chap {x : Rn} {name one : ByteArray} (h : Pr x name one) (hp : pap x.s.c = false) (hs : x.s.st = 1 ∨ (x.s.st = 2 ∧ x.s.who = name)) (hc : x.c.st = 1 ∨ x.c.st = 2) (hv : x.s.value.size = 16) (hu : x.up = []) (hd : x.down = [⟨1, x.s.id, Chp.vn x.s.value x.s.own⟩]) (ho : x.s.opn = true) :
    Dn (hop one true (hop one true (hop one true x))) name one ∧ (hop one true x).up = [⟨2, x.s.id, Chp.vn (Chp.dg x.s.id one x.s.value) name⟩] ∧ (hop one true x).down = [] ∧ (hop one true (hop one true x)).up = [] ∧ (hop one true (hop one true x)).down = [ans x.s.c x.s.id true] ∧ (hop one true (hop one true (hop one true x))).up = [] ∧ (hop one true (hop one true (hop one true x))).down = [] := by
  obtain ⟨s, c, up, down⟩ := x
  simp only at hp hs hc hv hu hd ho
  subst hu hd
  have hcf : c.c = s.c := h.cf
  have hnm : c.name = name := h.hn
  have hsc : c.secret = one := h.ho
  have hpc : pap c.c = false := by rw [hcf]; exact hp
  have hh := chal_heard (s := c) hpc (by omega) (by omega) (value := s.value) (own := s.own) (by omega) (by omega) h.own s.id (by rw [hnm]; exact h.n255)
  rw [hsc, hnm] at hh
  have e1 : hop one true ⟨s, c, [], [⟨1, s.id, Chp.vn s.value s.own⟩]⟩ = ⟨s, { c with id := s.id, has := true }, [⟨2, s.id, Chp.vn (Chp.dg s.id one s.value) name⟩], []⟩ := by
    unfold hop cpackS cpackO
    simp only [if_true, List.foldl_cons, List.foldl_nil, hh.1, hh.2]
    rfl
  obtain ⟨k1, k2, k3⟩ := chap_claims (s := s) hp ho (name := name) (one := one) h.n255
  have hw : well s ⟨2, s.id, Chp.vn (Chp.dg s.id one s.value) name⟩ one = true := by
    rw [k3 one, decide_eq_true rfl, Bool.true_and]
    rcases hs with e | ⟨e1, e2⟩
    · rw [decide_eq_false (by omega)]; rfl
    · rw [decide_eq_true e2.symm]; simp
  have hg := packS_good k1 hw
  have e2 : hop one true ⟨s, { c with id := s.id, has := true }, [⟨2, s.id, Chp.vn (Chp.dg s.id one s.value) name⟩], []⟩ = ⟨packS s ⟨2, s.id, Chp.vn (Chp.dg s.id one s.value) name⟩ one true, { c with id := s.id, has := true }, [], [ans s.c s.id true]⟩ := by
    unfold hop
    simp only [if_true, List.foldl_cons, List.foldl_nil]
    rw [hg.2]
  have ha := ans_chap (s := { c with id := s.id, has := true }) hpc (by show c.st ≠ 0; omega) (by show c.st ≠ 3; omega) rfl true
  have ha1 : whatC { c with id := s.id, has := true } (ans s.c s.id true) = 2 := by rw [← hcf]; exact ha.1
  have ha2 : wellC { c with id := s.id, has := true } (ans s.c s.id true) = true := by rw [← hcf]; exact ha.2
  have e3 : hop one true ⟨packS s ⟨2, s.id, Chp.vn (Chp.dg s.id one s.value) name⟩ one true, { c with id := s.id, has := true }, [], [ans s.c s.id true]⟩ = ⟨packS s ⟨2, s.id, Chp.vn (Chp.dg s.id one s.value) name⟩ one true, { c with id := s.id, has := true, st := 2 }, [], []⟩ := by
    unfold hop cpackS cpackO
    simp only [if_true, List.foldl_cons, List.foldl_nil, ha1, ha2]
    rw [if_neg (by decide), if_neg (by decide)]
  rw [e1, e2, e3]
  refine ⟨⟨⟨?_, hnm, hsc, h.n255, h.o255, ?_, ?_⟩, ?_, rfl, ?_, ?_⟩, rfl, rfl, rfl, rfl, rfl, rfl⟩
  · show c.c = (packS _ _ _ _).c; rw [hg.1]; exact hcf
  · show (packS _ _ _ _).own.size ≤ 255; rw [hg.1]; exact h.own
  · show mayC (packS _ _ _ _).c = true; rw [hg.1]; exact h.may
  · show (packS _ _ _ _).st = 2; rw [hg.1]
    show (if s.st = 1 then 2 else s.st) = 2
    split
    · rfl
    · rcases hs with e | e
      · contradiction
      · exact e.1
  · show (packS _ _ _ _).who = name; rw [hg.1]
    show (if s.st = 1 then _ else _) = name
    split
    · exact k2
    · rcases hs with e | e
      · contradiction
      · exact e.2
  · show (packS _ _ _ _).opn = false; rw [hg.1]

/-! ### two secrets -/
/-- What the client of another secret sends is never good. -/
theorem up_pap {s : Sv} (hp : pap s.c = true) {name one other : ByteArray} (hn : name.size ≤ 255) (ho : one.size ≤ 255) (hne : one ≠ other) (i : UInt8) : well s ⟨1, i, joinS [name, one]⟩ other = false := by
  have h := Pap.as_back (join_small hn ho)
  unfold well
  rw [if_pos hp]
  show decide (Pap.asT 1 (joinS [name, one]) 1 = other) = false
  rw [h.2.2.2]
  exact decide_eq_false hne
theorem up_chap {s : Sv} (hp : pap s.c = false) {name one other : ByteArray} (hn : name.size ≤ 255) (hne : ∀ i, Chp.dg i one s.value ≠ Chp.dg i other s.value) (i : UInt8) : well s ⟨2, i, Chp.vn (Chp.dg i one s.value) name⟩ other = false := by
  have h := Chp.put_read (c := 2) (.inr rfl) (v := Chp.dg i one s.value) (n := name) (by rw [Chp.dg_size]; omega) (by rw [Chp.dg_size]; omega) hn
  unfold well
  rw [if_neg (by rw [hp]; decide)]
  show (Chp.ckB 2 i (Chp.vn (Chp.dg i one s.value) name) s.id other s.value && _) = false
  by_cases e : i = s.id
  · subst e
    rw [Chp.ck_val h.1, h.2.1, decide_eq_false (hne _), Bool.false_and]
  · rw [Chp.ck_id e, Bool.false_and]
/-- Nothing that a client sends upon an answer is anything. -/
theorem answer_ends (c : Cl) (p : Pk) (h : whatC c p ≠ 1) : (cpackO c p).pkts = [] := by
  unfold cpackO
  rw [if_neg h]
  split
  · split <;> rfl
  · rfl
end Go.Proofs.YtpfbknbloeilmaaDoor.Ath

/- Two secrets: a round ends, and the server is not done, whatever is lost. Plain mathematics. -/
namespace Go.Proofs.YtpfbknbloeilmaaDoor.Ath
open Go.RowKit Go.Proofs.YtpfbknbloeilmaaDoor.Oct Go.Proofs.YtpfbknbloeilmaaDoor.Row Go.Proofs.YtpfbknbloeilmaaDoor.Md5 Go.Proofs.YtpfbknbloeilmaaDoor.Mem

/-- The server's secret is another one, the challenge's value v tells them apart. -/
structure Nv (x : Rn) (name one other v : ByteArray) : Prop where
  pr : Pr x name one
  st : x.s.st ≠ 2
  ne : pap x.s.c = true → one ≠ other
  dg : pap x.s.c = false → x.s.value = v ∧ v.size = 16 ∧ ∀ i, Chp.dg i one v ≠ Chp.dg i other v
def UpP (pp : Bool) (name one v : ByteArray) (p : Pk) : Prop := if pp then ∃ i, p = ⟨1, i, joinS [name, one]⟩ else ∃ i, p = ⟨2, i, Chp.vn (Chp.dg i one v) name⟩
/-- What can be on the way, by what is still to come of it. -/
def L3 (x : Rn) : Prop := x.up = [] ∧ (x.down = [] ∨ (pap x.s.c = false ∧ ∃ i own, own.size ≤ 255 ∧ x.down = [⟨1, i, Chp.vn x.s.value own⟩]))
def L2 (name one v : ByteArray) (x : Rn) : Prop := x.down = [] ∧ (x.up = [] ∨ ∃ p, UpP (pap x.s.c) name one v p ∧ x.up = [p])
def L1 (x : Rn) : Prop := x.up = [] ∧ (x.down = [] ∨ ∃ p, (∀ c : Cl, c.c = x.s.c → whatC c p ≠ 1) ∧ x.down = [p])
def L0 (x : Rn) : Prop := x.up = [] ∧ x.down = []
theorem L0.l3 {x : Rn} (h : L0 x) : L3 x := ⟨h.1, .inl h.2⟩
theorem L0.l2 {x : Rn} {name one v : ByteArray} (h : L0 x) : L2 name one v x := ⟨h.2, .inl h.1⟩
theorem L0.l1 {x : Rn} (h : L0 x) : L1 x := ⟨h.1, .inl h.2⟩
theorem up_not {x : Rn} {name one other v : ByteArray} (h : Nv x name one other v) {p : Pk} (hp : UpP (pap x.s.c) name one v p) : well x.s p other = false := by
  unfold UpP at hp
  cases e : pap x.s.c
  · rw [e] at hp
    obtain ⟨i, rfl⟩ := hp
    obtain ⟨hv, _, hd⟩ := h.dg e
    rw [← hv]
    exact up_chap e h.pr.n255 (by rw [hv]; exact hd) i
  · rw [e] at hp
    obtain ⟨i, rfl⟩ := hp
    exact up_pap e h.pr.n255 h.pr.o255 (h.ne e) i
theorem packS_keeps (s : Sv) (p : Pk) (secret : ByteArray) (known : Bool) : (packS s p secret known).c = s.c ∧ (packS s p secret known).own = s.own ∧ (packS s p secret known).value = s.value := by
  unfold packS
  split
  · split
    · exact ⟨rfl, rfl, rfl⟩
    · split <;> exact ⟨rfl, rfl, rfl⟩
  · exact ⟨rfl, rfl, rfl⟩
theorem cpackS_keeps (c : Cl) (p : Pk) : (cpackS c p).c = c.c ∧ (cpackS c p).name = c.name ∧ (cpackS c p).secret = c.secret := by
  unfold cpackS
  split
  · exact ⟨rfl, rfl, rfl⟩
  · split <;> exact ⟨rfl, rfl, rfl⟩
/-- An answer is no challenge. -/
theorem ans_no (c : Cl) (i : UInt8) (w : Bool) (cf : Cf) (h : c.c = cf) : whatC c (ans cf i w) ≠ 1 := by
  unfold whatC
  rw [h]
  by_cases h0 : c.st = 0 ∨ c.st = 3
  · rw [if_pos h0]; decide
  · rw [if_neg h0]
    cases e : pap cf
    · simp only [Bool.false_eq_true, if_false]
      have hc : (ans cf i w).c ≠ 1 := by
        rw [ansC e]
        show (if w = true then (3 : UInt8) else 4) ≠ 1
        cases w <;> decide
      rw [if_neg (fun g => hc g.2)]
      split <;> decide
    · simp only [if_true]
      split <;> decide
theorem reply_no {s : Sv} {p : Pk} {secret : ByteArray} (hw : well s p secret = false) (hs : s.st ≠ 2) : (packO s p secret true).pkts = [] ∨ (packO s p secret true).pkts = [ans s.c p.i false] := by
  unfold packO
  rw [hw]
  split
  · right; rfl
  · left
    rw [if_neg (fun e => hs e.1)]; rfl
theorem lost_all {x : Rn} {name one other v : ByteArray} (h : Nv x name one other v) : Nv (hop other false x) name one other v ∧ L0 (hop other false x) := ⟨⟨⟨h.pr.cf, h.pr.hn, h.pr.ho, h.pr.n255, h.pr.o255, h.pr.own, h.pr.may⟩, h.st, h.ne, h.dg⟩, rfl, rfl⟩
theorem hop_none {x : Rn} {name one other v : ByteArray} (h : Nv x name one other v) (h0 : L0 x) (b : Bool) : Nv (hop other b x) name one other v ∧ L0 (hop other b x) := by
  cases b
  · exact lost_all h
  · obtain ⟨s, c, up, down⟩ := x
    obtain ⟨h1, h2⟩ := h0
    simp only at h1 h2
    subst h1 h2
    exact ⟨h, rfl, rfl⟩
theorem hop3 {x : Rn} {name one other v : ByteArray} (h : Nv x name one other v) (hl : L3 x) (b : Bool) : Nv (hop other b x) name one other v ∧ L2 name one v (hop other b x) := by
  cases b
  · have := lost_all h; exact ⟨this.1, this.2.l2⟩
  obtain ⟨h1, h2 | ⟨hp, i, own, ho, h2⟩⟩ := hl
  · have := hop_none h ⟨h1, h2⟩ true; exact ⟨this.1, this.2.l2⟩
  obtain ⟨s, c, up, down⟩ := x
  simp only at h1 h2 hp
  subst h1 h2
  obtain ⟨hv, hz, hd⟩ := h.dg hp
  have k := cpackS_keeps c ⟨1, i, Chp.vn s.value own⟩
  refine ⟨⟨⟨k.1.trans h.pr.cf, k.2.1.trans h.pr.hn, k.2.2.trans h.pr.ho, h.pr.n255, h.pr.o255, h.pr.own, h.pr.may⟩, h.st, h.ne, h.dg⟩, rfl, ?_⟩
  show (cpackO c ⟨1, i, Chp.vn s.value own⟩).pkts = [] ∨ ∃ p, UpP (pap s.c) name one v p ∧ (cpackO c ⟨1, i, Chp.vn s.value own⟩).pkts = [p]
  have hcf : c.c = s.c := h.pr.cf
  have hpc : pap c.c = false := by rw [hcf]; exact hp
  by_cases h0 : c.st = 0 ∨ c.st = 3
  · left
    exact answer_ends c _ (by unfold whatC; rw [if_pos h0]; decide)
  · right
    have hnm : c.name = name := h.pr.hn
    have hsc : c.secret = one := h.pr.ho
    have hvz : s.value.size = 16 := by rw [show s.value = v from hv]; exact hz
    have hh := chal_heard (s := c) hpc (fun e => h0 (.inl e)) (fun e => h0 (.inr e)) (value := s.value) (own := own) (by omega) (by omega) ho i (by rw [hnm]; exact h.pr.n255)
    refine ⟨⟨2, i, Chp.vn (Chp.dg i one v) name⟩, ?_, ?_⟩
    · unfold UpP; rw [hp]; exact ⟨i, rfl⟩
    · unfold cpackO
      rw [if_pos hh.1, hh.2, hsc, hnm, show s.value = v from hv]; rfl
theorem hop2 {x : Rn} {name one other v : ByteArray} (h : Nv x name one other v) (hl : L2 name one v x) (b : Bool) : Nv (hop other b x) name one other v ∧ L1 (hop other b x) := by
  cases b
  · have := lost_all h; exact ⟨this.1, this.2.l1⟩
  obtain ⟨h1, h2 | ⟨p, hp, h2⟩⟩ := hl
  · have := hop_none h ⟨h2, h1⟩ true; exact ⟨this.1, this.2.l1⟩
  have hw := up_not h hp
  obtain ⟨s, c, up, down⟩ := x
  simp only at h1 h2 hp hw
  subst h1 h2
  obtain ⟨k1, k2, k3⟩ := packS_keeps s p other true
  have hst : s.st ≠ 2 := h.st
  have hs : (packS s p other true).st ≠ 2 := not_well hw true hst
  refine ⟨⟨⟨h.pr.cf.trans k1.symm, h.pr.hn, h.pr.ho, h.pr.n255, h.pr.o255, ?_, ?_⟩, hs, ?_, ?_⟩, rfl, ?_⟩
  · show (packS s p other true).own.size ≤ 255; rw [k2]; exact h.pr.own
  · show mayC (packS s p other true).c = true; rw [k1]; exact h.pr.may
  · intro e
    have e' : pap (packS s p other true).c = true := e
    rw [k1] at e'
    exact h.ne e'
  · intro e
    have e' : pap (packS s p other true).c = false := e
    rw [k1] at e'
    have := h.dg e'
    exact ⟨k3.trans this.1, this.2⟩
  · show (packO s p other true).pkts = [] ∨ ∃ q, (∀ c : Cl, c.c = (packS s p other true).c → whatC c q ≠ 1) ∧ (packO s p other true).pkts = [q]
    rcases reply_no hw hst with e | e
    · exact .inl e
    · exact .inr ⟨_, fun c hc => ans_no c p.i false s.c (by rw [hc, k1]), e⟩
theorem hop1 {x : Rn} {name one other v : ByteArray} (h : Nv x name one other v) (hl : L1 x) (b : Bool) : Nv (hop other b x) name one other v ∧ L0 (hop other b x) := by
  cases b
  · exact lost_all h
  obtain ⟨h1, h2 | ⟨p, hp, h2⟩⟩ := hl
  · exact hop_none h ⟨h1, h2⟩ true
  obtain ⟨s, c, up, down⟩ := x
  simp only at h1 h2 hp
  subst h1 h2
  have k := cpackS_keeps c p
  exact ⟨⟨⟨k.1.trans h.pr.cf, k.2.1.trans h.pr.hn, k.2.2.trans h.pr.ho, h.pr.n255, h.pr.o255, h.pr.own, h.pr.may⟩, h.st, h.ne, h.dg⟩, answer_ends c p (hp c h.pr.cf), rfl⟩
end Go.Proofs.YtpfbknbloeilmaaDoor.Ath

/- How a pair starts, and what a tick of both comes to. Plain mathematics. -/
namespace Go.Proofs.YtpfbknbloeilmaaDoor.Ath
open Go.RowKit Go.Proofs.YtpfbknbloeilmaaDoor.Oct Go.Proofs.YtpfbknbloeilmaaDoor.Row Go.Proofs.YtpfbknbloeilmaaDoor.Md5 Go.Proofs.YtpfbknbloeilmaaDoor.Mem

/-- A pair behind its start. -/
def first (c : Cf) (own name one : ByteArray) (d : UInt32) : Rn := ⟨startS (newS c own) d, cstartS (newC c name one), (cstartO (newC c name one)).pkts, (startO (newS c own) d).pkts⟩
/-- A pair behind a tick of both. -/
def ticked (x : Rn) (d : UInt32) : Rn := ⟨tickS x.s d, ctickS x.c, (ctickO x.c).pkts, (tickO x.s d).pkts⟩
theorem startS_pap {c : Cf} (hp : pap c = true) (own : ByteArray) (d : UInt32) : startS (newS c own) d = { newS c own with st := 1, clock := c.wait * c.tries } ∧ startO (newS c own) d = no := by
  unfold startS startO
  rw [if_pos (show (newS c own).st = 0 from rfl), if_pos (show (newS c own).st = 0 from rfl), if_pos (show pap (newS c own).c = true from hp), if_pos (show pap (newS c own).c = true from hp)]
  exact ⟨rfl, rfl⟩
theorem startS_chap {c : Cf} (hp : pap c = false) (own : ByteArray) (d : UInt32) : startS (newS c own) d = chalS (ofDraw { newS c own with st := 1 } d) ∧ startO (newS c own) d = sends [chalP (ofDraw (newS c own) d)] := by
  have h : ¬ pap (newS c own).c = true := by show ¬ pap c = true; rw [hp]; decide
  unfold startS startO
  rw [if_pos (show (newS c own).st = 0 from rfl), if_pos (show (newS c own).st = 0 from rfl), if_neg h, if_neg h]
  exact ⟨rfl, rfl⟩
theorem cstart_pap {c : Cf} (hp : pap c = true) (name one : ByteArray) : cstartS (newC c name one) = reqS { newC c name one with st := 1 } ∧ cstartO (newC c name one) = sends [reqP (newC c name one)] := by
  unfold cstartS cstartO
  rw [if_pos (show (newC c name one).st = 0 from rfl), if_pos (show (newC c name one).st = 0 from rfl), if_pos (show pap (newC c name one).c = true from hp), if_pos (show pap (newC c name one).c = true from hp)]
  exact ⟨rfl, rfl⟩
theorem cstart_chap {c : Cf} (hp : pap c = false) (name one : ByteArray) : cstartS (newC c name one) = { newC c name one with st := 1 } ∧ cstartO (newC c name one) = no := by
  have h : ¬ pap (newC c name one).c = true := by show ¬ pap c = true; rw [hp]; decide
  unfold cstartS cstartO
  rw [if_pos (show (newC c name one).st = 0 from rfl), if_pos (show (newC c name one).st = 0 from rfl), if_neg h, if_neg h]
  exact ⟨rfl, rfl⟩
theorem first_pap {c : Cf} (hc : mayC c = true) (hp : pap c = true) {own name one : ByteArray} (hw : own.size ≤ 255) (hn : name.size ≤ 255) (ho : one.size ≤ 255) (d : UInt32) :
    Pr (first c own name one d) name one ∧ pap (first c own name one d).s.c = true ∧ (first c own name one d).s.st = 1 ∧ (first c own name one d).c.st = 1 ∧ (first c own name one d).up = [⟨1, (first c own name one d).c.id, joinS [name, one]⟩] ∧ (first c own name one d).down = [] ∧ (first c own name one d).s.opn = false := by
  unfold first
  rw [(startS_pap hp own d).1, (startS_pap hp own d).2, (cstart_pap hp name one).1, (cstart_pap hp name one).2]
  refine ⟨⟨rfl, rfl, rfl, hn, ho, hw, hc⟩, hp, rfl, rfl, ?_, rfl, rfl⟩
  show [reqP (newC c name one)] = _
  unfold reqP
  rw [pkO_ok (join_small (show (newC c name one).name.size ≤ 255 from hn) (show (newC c name one).secret.size ≤ 255 from ho))]
  rfl
theorem first_chap {c : Cf} (hc : mayC c = true) (hp : pap c = false) {own name one : ByteArray} (hw : own.size ≤ 255) (hn : name.size ≤ 255) (ho : one.size ≤ 255) (d : UInt32) :
    Pr (first c own name one d) name one ∧ pap (first c own name one d).s.c = false ∧ (first c own name one d).s.st = 1 ∧ (first c own name one d).c.st = 1 ∧ (first c own name one d).s.value = valueD d ∧ (first c own name one d).up = [] ∧ (first c own name one d).down = [⟨1, (first c own name one d).s.id, Chp.vn (first c own name one d).s.value own⟩] ∧ (first c own name one d).s.opn = true ∧ (first c own name one d).s.own = own := by
  unfold first
  rw [(startS_chap hp own d).1, (startS_chap hp own d).2, (cstart_chap hp name one).1, (cstart_chap hp name one).2]
  refine ⟨⟨rfl, rfl, rfl, hn, ho, hw, hc⟩, hp, rfl, rfl, rfl, rfl, ?_, rfl, rfl⟩
  show [chalP (ofDraw (newS c own) d)] = _
  have hz := value_size d
  rw [chalP_is (s := ofDraw (newS c own) d) (by show 1 ≤ (valueD d).size; omega) (by show (valueD d).size ≤ 255; omega) hw]
  rfl

/-! ### one secret: a tick of both, once they are done -/
theorem ctick_done {c : Cl} (h : c.st = 2) : ctickS c = c ∧ (ctickO c).pkts = [] := by
  unfold ctickS ctickO
  rw [if_neg (by omega), if_neg (by omega)]
  exact ⟨rfl, rfl⟩
theorem tick_done {x : Rn} {name one : ByteArray} (h : Dn x name one) (d : UInt32) :
    (ticked x d).up = [] ∧ (((ticked x d).down = [] ∧ Dn (ticked x d) name one) ∨
      (Pr (ticked x d) name one ∧ pap (ticked x d).s.c = false ∧ (ticked x d).s.st = 2 ∧ (ticked x d).s.who = name ∧ (ticked x d).c.st = 2 ∧ (ticked x d).s.value.size = 16 ∧ (ticked x d).down = [⟨1, (ticked x d).s.id, Chp.vn (ticked x d).s.value (ticked x d).s.own⟩] ∧ (ticked x d).s.opn = true)) := by
  obtain ⟨⟨cf, hn, ho, n255, o255, own, may⟩, ss, cs, who, shut⟩ := h
  have hcd := ctick_done cs
  refine ⟨hcd.2, ?_⟩
  unfold ticked
  rw [hcd.1, hcd.2]
  unfold tickS tickO
  by_cases hg : goes x.s = true
  · rw [if_pos hg, if_pos hg]
    have hp : pap x.s.c = false := by
      unfold goes at hg
      rw [decide_eq_false (by omega), Bool.false_or, Bool.and_eq_true, Bool.and_eq_true] at hg
      simpa using hg.1.2
    by_cases h1 : 0 < x.s.clock - 1
    · rw [if_pos h1, if_pos h1]
      exact .inl ⟨rfl, ⟨cf, hn, ho, n255, o255, own, may⟩, ss, cs, who, shut⟩
    · rw [if_neg h1, if_neg h1, shut, decide_eq_true ss]
      simp only [Bool.false_and, Bool.not_false, Bool.true_and, Bool.false_eq_true, if_false, if_true]
      refine .inr ⟨⟨cf, hn, ho, n255, o255, own, may⟩, hp, ss, who, cs, value_size d, ?_, rfl⟩
      show [chalP (ofDraw x.s d)] = _
      have hz := value_size d
      rw [chalP_is (s := ofDraw x.s d) (by show 1 ≤ (valueD d).size; omega) (by show (valueD d).size ≤ 255; omega) own]
      rfl
  · rw [if_neg hg, if_neg hg]
    exact .inl ⟨rfl, ⟨cf, hn, ho, n255, o255, own, may⟩, ss, cs, who, shut⟩

/-! ### two secrets -/
/-- PAP has no challenge open. -/
def Shut (x : Rn) : Prop := pap x.s.c = true → x.s.opn = false
theorem packS_shut (s : Sv) (p : Pk) (secret : ByteArray) (known : Bool) (h : s.opn = false) : (packS s p secret known).opn = false := by
  unfold packS
  split
  · split
    · rfl
    · split
      · rfl
      · exact h
  · exact h
theorem fold_shut (secret : ByteArray) : ∀ (l : List Pk) (s : Sv), (pap s.c = true → s.opn = false) → (pap (l.foldl (fun s p => packS s p secret true) s).c = true → (l.foldl (fun s p => packS s p secret true) s).opn = false)
  | [], _, h => h
  | p :: l, s, h => fold_shut secret l (packS s p secret true) (fun e => packS_shut s p secret true (h (by rw [← (packS_keeps s p secret true).1]; exact e)))
theorem Shut.hop {x : Rn} (h : Shut x) (secret : ByteArray) (b : Bool) : Shut (hop secret b x) := by
  cases b
  · exact h
  · exact fold_shut secret x.up x.s h
theorem tick_two {x : Rn} {name one other v : ByteArray} (h : Nv x name one other v) (hs : Shut x) (d : UInt32) : Nv (ticked x d) name one other v ∧ Shut (ticked x d) ∧ (L2 name one v (ticked x d) ∨ L3 (ticked x d)) := by
  obtain ⟨⟨cf, hn, ho, n255, o255, own, may⟩, st, ne, dg⟩ := h
  have kt : (tickS x.s d).c = x.s.c ∧ (tickS x.s d).own = x.s.own ∧ (tickS x.s d).value = x.s.value ∧ (tickS x.s d).st ≠ 2 ∧ ((x.s.opn = false → (tickS x.s d).opn = false)) ∧ ((tickO x.s d).pkts = [] ∨ (x.s.opn = true ∧ (tickO x.s d).pkts = [chalP x.s])) := by
    have h2 := tick_not x.s d st
    unfold tickS tickO at *
    split
    · split
      · exact ⟨rfl, rfl, rfl, st, (fun e => e), .inl rfl⟩
      · split
        · rename_i e
          rw [Bool.and_eq_true] at e
          exact ⟨rfl, rfl, rfl, st, (fun g => by rw [e.1] at g; cases g), .inr ⟨e.1, rfl⟩⟩
        · split
          · rename_i e
            rw [Bool.and_eq_true, decide_eq_true_eq] at e
            exact absurd e.2 st
          · exact ⟨rfl, rfl, rfl, (by show (3 : Nat) ≠ 2; decide), (fun _ => rfl), .inl rfl⟩
    · exact ⟨rfl, rfl, rfl, st, (fun e => e), .inl rfl⟩
  have kc : (ctickS x.c).c = x.c.c ∧ (ctickS x.c).name = x.c.name ∧ (ctickS x.c).secret = x.c.secret ∧ ((ctickO x.c).pkts = [] ∨ (pap x.c.c = true ∧ (ctickO x.c).pkts = [reqP x.c])) := by
    unfold ctickS ctickO
    split
    · rename_i g
      split
      · exact ⟨rfl, rfl, rfl, .inl rfl⟩
      · split
        · exact ⟨rfl, rfl, rfl, .inr ⟨g.2, rfl⟩⟩
        · exact ⟨rfl, rfl, rfl, .inl rfl⟩
    · exact ⟨rfl, rfl, rfl, .inl rfl⟩
  obtain ⟨t1, t2, t3, t4, t5, t6⟩ := kt
  obtain ⟨c1, c2, c3, c4⟩ := kc
  have hpap : pap (ticked x d).s.c = pap x.s.c := by show pap (tickS x.s d).c = _; rw [t1]
  refine ⟨⟨⟨?_, c2.trans hn, c3.trans ho, n255, o255, ?_, ?_⟩, t4, ?_, ?_⟩, ?_, ?_⟩
  · show (ctickS x.c).c = (tickS x.s d).c; rw [c1, t1]; exact cf
  · show (tickS x.s d).own.size ≤ 255; rw [t2]; exact own
  · show mayC (tickS x.s d).c = true; rw [t1]; exact may
  · intro e; rw [hpap] at e; exact ne e
  · intro e; rw [hpap] at e; exact ⟨t3.trans (dg e).1, (dg e).2⟩
  · intro e; rw [hpap] at e; exact t5 (hs e)
  · cases hp : pap x.s.c
    · right
      have hcl : (ctickO x.c).pkts = [] := by
        rcases c4 with e | e
        · exact e
        · have e1 := e.1; rw [cf, hp] at e1; cases e1
      refine ⟨hcl, ?_⟩
      rcases t6 with e | e
      · exact .inl e
      · obtain ⟨hv, hz, _⟩ := dg hp
        have hvz : x.s.value.size = 16 := by rw [hv]; exact hz
        refine .inr ⟨by rw [hpap]; exact hp, x.s.id + 1, x.s.own, own, ?_⟩
        show (tickO x.s d).pkts = [⟨1, x.s.id + 1, Chp.vn (tickS x.s d).value x.s.own⟩]
        rw [t3, e.2, chalP_is (by omega) (by omega) own]
    · left
      have hsl : (tickO x.s d).pkts = [] := by
        rcases t6 with e | e
        · exact e
        · have e1 := e.1; rw [hs hp] at e1; cases e1
      refine ⟨hsl, ?_⟩
      rcases c4 with e | e
      · exact .inl e
      · right
        refine ⟨reqP x.c, ?_, e.2⟩
        rw [hpap]
        unfold UpP
        rw [hp, if_pos rfl]
        exact ⟨x.c.id + 1, reqP_is ⟨cf, hn, ho, n255, o255, own, may⟩⟩
end Go.Proofs.YtpfbknbloeilmaaDoor.Ath

/- A server of CHAP that sends its challenge anew each tick: which response it claims; done, and asked again. Plain mathematics. -/
namespace Go.Proofs.YtpfbknbloeilmaaDoor.Ath
open Go.RowKit Go.Proofs.YtpfbknbloeilmaaDoor.Oct Go.Proofs.YtpfbknbloeilmaaDoor.Row Go.Proofs.YtpfbknbloeilmaaDoor.Md5 Go.Proofs.YtpfbknbloeilmaaDoor.Mem

/-- The conf: n + 1 times, one tick. -/
def cO (n : Nat) : Cf := ⟨2, n + 1, 1, 1⟩
/-- Behind i ticks. -/
def sO (n : Nat) (own : ByteArray) (d : UInt32) (i : Nat) : Sv := ⟨cO n, own, 1, bOf [], valueD d, UInt8.ofNat (i + 1), true, i + 1, 1, 0, ⟨0, 0, bOf []⟩, ⟨0, 0, bOf []⟩⟩
theorem cO_may {n : Nat} (h1 : 1 ≤ n) (h2 : n ≤ 19) : mayC (cO n) = true := by
  unfold mayC cO
  simp only [Bool.and_eq_true, decide_eq_true_eq]
  refine ⟨⟨⟨⟨⟨⟨by decide, by omega⟩, by omega⟩, by omega⟩, by omega⟩, by omega⟩, by omega⟩
theorem cO_pap (n : Nat) : pap (cO n) = false := rfl
theorem sO_start (n : Nat) (own : ByteArray) (d : UInt32) : startS (newS (cO n) own) d = sO n own d 0 := by
  rw [(startS_chap (cO_pap n) own d).1]
  rfl
theorem ofNat_next (i : Nat) : UInt8.ofNat i + 1 = UInt8.ofNat (i + 1) := by
  rw [← UInt8.toNat_inj]
  rw [UInt8.toNat_add, UInt8.toNat_ofNat', UInt8.toNat_ofNat']
  show (i % 256 + 1) % 256 = (i + 1) % 256
  omega
theorem sO_tick {n : Nat} {own : ByteArray} (hw : own.size ≤ 255) (d d' : UInt32) {i : Nat} (h : i < n) : tickS (sO n own d i) d' = sO n own d (i + 1) ∧ tickO (sO n own d i) d' = sends [⟨1, UInt8.ofNat (i + 2), Chp.vn (valueD d) own⟩] := by
  have hz := value_size d
  have hg : goes (sO n own d i) = true := rfl
  have hc : ¬ (0 : Int) < (sO n own d i).clock - 1 := by show ¬ (0 : Int) < 1 - 1; omega
  have hs : ((sO n own d i).opn && decide ((sO n own d i).sent < (sO n own d i).c.tries)) = true := by
    show (true && decide (((i : Int) + 1) < (n : Int) + 1)) = true
    rw [decide_eq_true (by omega)]; rfl
  unfold tickS tickO
  rw [if_pos hg, if_pos hg, if_neg hc, if_neg hc, if_pos hs, if_pos hs]
  constructor
  · unfold chalS
    show (⟨cO n, own, 1, bOf [], valueD d, UInt8.ofNat (i + 1) + 1, true, (i : Int) + 1 + 1, 1, 0, ⟨0, 0, bOf []⟩, ⟨0, 0, bOf []⟩⟩ : Sv) = _
    rw [ofNat_next]
    unfold sO
    congr 1
  · rw [chalP_is (by show 1 ≤ (valueD d).size; omega) (by show (valueD d).size ≤ 255; omega) hw]
    show sends [⟨1, UInt8.ofNat (i + 1) + 1, _⟩] = _
    rw [ofNat_next]; rfl
theorem sO_first {n : Nat} {own : ByteArray} (hw : own.size ≤ 255) (d : UInt32) : startO (newS (cO n) own) d = sends [⟨1, 1, Chp.vn (valueD d) own⟩] := by
  have hz := value_size d
  rw [(startS_chap (cO_pap n) own d).2, chalP_is (s := ofDraw (newS (cO n) own) d) (by show 1 ≤ (valueD d).size; omega) (by show (valueD d).size ≤ 255; omega) hw]
  rfl
/-- The response to the k-th challenge. -/
def rO (secret name : ByteArray) (d : UInt32) (k : Nat) : Pk := ⟨2, UInt8.ofNat (k + 1), Chp.vn (Chp.dg (UInt8.ofNat (k + 1)) secret (valueD d)) name⟩
/-- An older one is not claimed, and does nothing. -/
theorem rO_old {n : Nat} {own secret name : ByteArray} {d : UInt32} {k i : Nat} (hk : k < i) (hi : i ≤ 19) (sec : ByteArray) :
    claims (sO n own d i) (rO secret name d k) = false ∧ packS (sO n own d i) (rO secret name d k) sec true = sO n own d i ∧ packO (sO n own d i) (rO secret name d k) sec true = no := by
  have hne : (UInt8.ofNat (k + 1) : UInt8) ≠ UInt8.ofNat (i + 1) := by
    intro e
    have e1 := congrArg UInt8.toNat e
    rw [UInt8.toNat_ofNat', UInt8.toNat_ofNat'] at e1
    omega
  have hc : claims (sO n own d i) (rO secret name d k) = false := by
    unfold claims
    rw [if_neg (show ¬ pap (sO n own d i).c = true from by show ¬ pap (cO n) = true; rw [cO_pap]; decide)]
    show (_ && _ && _ && decide (UInt8.ofNat (k + 1) = UInt8.ofNat (i + 1))) = false
    rw [decide_eq_false hne, Bool.and_false]
  refine ⟨hc, ?_, ?_⟩
  · unfold packS; rw [hc]; rfl
  · unfold packO
    rw [hc, if_neg (by decide), if_neg (fun e => absurd e.1 (by show ¬ (1 : Nat) = 2; decide))]
/-- The one to the last challenge is claimed, and good. -/
theorem rO_last {n : Nat} {own secret name : ByteArray} (hn : name.size ≤ 255) (d : UInt32) (i : Nat) :
    claims (sO n own d i) (rO secret name d i) = true ∧ nameIn (sO n own d i) (rO secret name d i) = name ∧ well (sO n own d i) (rO secret name d i) secret = true := by
  obtain ⟨h1, h2, h3⟩ := chap_claims (s := sO n own d i) (cO_pap n) rfl (name := name) (one := secret) hn
  refine ⟨h1, h2, ?_⟩
  have h4 := h3 secret
  rw [decide_eq_true rfl, Bool.true_and] at h4
  exact h4
/-- The server that is done. -/
def sD (n : Nat) (own secret name : ByteArray) (d : UInt32) : Sv := { sO n own d n with opn := false, last := rO secret name d n, reply := ⟨3, UInt8.ofNat (n + 1), bOf []⟩, clock := 1, st := 2, who := name }
theorem sD_is {n : Nat} {own secret name : ByteArray} (hn : name.size ≤ 255) (d : UInt32) :
    packS (sO n own d n) (rO secret name d n) secret true = sD n own secret name d ∧ packO (sO n own d n) (rO secret name d n) secret true = ⟨true, false, name, [⟨3, UInt8.ofNat (n + 1), bOf []⟩]⟩ := by
  obtain ⟨h1, h2, h3⟩ := rO_last (n := n) (own := own) (secret := secret) hn d n
  have hg := packS_good h1 h3
  constructor
  · rw [hg.1, h2]
    rfl
  · unfold packO
    rw [if_pos h1, h3, h2]
    rfl
/-- The same packet again. -/
theorem sD_again (n : Nat) (own secret name : ByteArray) (d : UInt32) (sec : ByteArray) :
    packS (sD n own secret name d) (rO secret name d n) sec true = sD n own secret name d ∧ packO (sD n own secret name d) (rO secret name d n) sec true = sends [⟨3, UInt8.ofNat (n + 1), bOf []⟩] := by
  have hc : claims (sD n own secret name d) (rO secret name d n) = false := by
    unfold claims
    rw [if_neg (show ¬ pap (sD n own secret name d).c = true from by show ¬ pap (cO n) = true; rw [cO_pap]; decide)]
    rfl
  constructor
  · unfold packS; rw [hc]; rfl
  · unfold packO
    rw [hc, if_neg (by decide), if_pos ⟨rfl, rfl, rfl, rfl⟩]
    rfl
/-- Asked again. -/
def sA (n : Nat) (own secret name : ByteArray) (d d' : UInt32) : Sv := chalS (ofDraw { sD n own secret name d with clock := 0 } d')
theorem sD_tick {n : Nat} {own secret name : ByteArray} (hw : own.size ≤ 255) (d d' : UInt32) :
    tickS (sD n own secret name d) d' = sA n own secret name d d' ∧ tickO (sD n own secret name d) d' = sends [⟨1, (sA n own secret name d d').id, Chp.vn (valueD d') own⟩] := by
  have hz := value_size d'
  constructor
  · rfl
  · show sends [chalP (ofDraw (sD n own secret name d) d')] = _
    rw [chalP_is (s := ofDraw (sD n own secret name d) d') (by show 1 ≤ (valueD d').size; omega) (by show (valueD d').size ≤ 255; omega) hw]
    rfl
/-- By its own name it stays done, by another one it fails. -/
theorem sA_end {n : Nat} {own secret name other : ByteArray} (hn : other.size ≤ 255) (d d' : UInt32) :
    let q : Pk := ⟨2, (sA n own secret name d d').id, Chp.vn (Chp.dg (sA n own secret name d d').id secret (valueD d')) other⟩
    (packO (sA n own secret name d d') q secret true).failed = decide (other ≠ name) ∧ ((packS (sA n own secret name d d') q secret true).st = if other = name then 2 else 3) ∧ (packS (sA n own secret name d d') q secret true).who = name := by
  intro q
  obtain ⟨h1, h2, h3⟩ := chap_claims (s := sA n own secret name d d') (cO_pap n) rfl (name := other) (one := secret) hn
  have h4 := h3 secret
  rw [decide_eq_true rfl, Bool.true_and] at h4
  have h5 : well (sA n own secret name d d') q secret = decide (other = name) := by
    refine h4.trans ?_
    show (!decide ((2 : Nat) = 2) || decide (other = name)) = _
    rw [decide_eq_true rfl]; rfl
  have hc : claims (sA n own secret name d d') q = true := h1
  unfold packS packO
  rw [if_pos hc, if_pos hc, h5]
  by_cases e : other = name
  · rw [decide_eq_true e, if_pos e]
    exact ⟨by simp [e], rfl, rfl⟩
  · rw [decide_eq_false e, if_neg e]
    exact ⟨by simp [e]; exact .inl (cO_pap n), rfl, rfl⟩
end Go.Proofs.YtpfbknbloeilmaaDoor.Ath
