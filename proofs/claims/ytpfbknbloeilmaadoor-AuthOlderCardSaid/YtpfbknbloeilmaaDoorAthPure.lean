/- A server and a client that tell who they are: the machines of the document (P20.1, P20.2), as mathematics, of no program. -/
import Derived.Test.YtpfbknbloeilmaaDoorPapDef
import Derived.Test.YtpfbknbloeilmaaDoorChpPure
import Derived.Test.YtpfbknbloeilmaaDoorPks
namespace Go.Proofs.YtpfbknbloeilmaaDoor.Ath
open Go.RowKit Go.Proofs.YtpfbknbloeilmaaDoor.Oct Go.Proofs.YtpfbknbloeilmaaDoor.Row Go.Proofs.YtpfbknbloeilmaaDoor.Md5 Go.Proofs.YtpfbknbloeilmaaDoor.Mem

/-- A conf: by what, how often, how long, when again. -/
structure Cf where
  kind : UInt8
  tries : Int
  wait : Int
  again : Int
def mayC (c : Cf) : Bool := (c.kind == 1 || c.kind == 2) && decide (1 ≤ c.tries) && decide (c.tries ≤ 20) && decide (1 ≤ c.wait) && decide (c.wait ≤ 1000) && decide (0 ≤ c.again) && decide (c.again ≤ 100000)
def pap (c : Cf) : Bool := c.kind == 1
/-- What comes of something. -/
structure Ot where
  done : Bool
  failed : Bool
  name : ByteArray
  pkts : List Pk
def no : Ot := ⟨false, false, bOf [], []⟩
def sends (l : List Pk) : Ot := ⟨false, false, bOf [], l⟩
/-- A packet that is made, or the empty one. -/
def pkO (E : Int) (c i : UInt8) (d : ByteArray) : Pk := if E = 0 then ⟨c, i, d⟩ else ⟨0, 0, bOf []⟩

/-! ### the server -/
structure Sv where
  c : Cf
  own : ByteArray
  st : Nat
  who : ByteArray
  value : ByteArray
  id : UInt8
  opn : Bool
  sent : Int
  clock : Int
  bad : Int
  last : Pk
  reply : Pk
def newS (c : Cf) (own : ByteArray) : Sv := ⟨c, own, 0, bOf [], bOf [], 0, false, 0, 0, 0, ⟨0, 0, bOf []⟩, ⟨0, 0, bOf []⟩⟩
/-- It challenges. -/
def chalS (s : Sv) : Sv := { s with id := s.id + 1, opn := true, sent := s.sent + 1, clock := s.c.wait }
def chalP (s : Sv) : Pk := pkO (Chp.chE s.value s.own) 1 (s.id + 1) (Chp.vn s.value s.own)
def valueD (d : UInt32) : ByteArray := bOf (md5 (numS d.toNat 4))
def ofDraw (s : Sv) (d : UInt32) : Sv := { s with value := valueD d, sent := 0 }
def startS (s : Sv) (d : UInt32) : Sv :=
  if s.st = 0 then (if pap s.c then { s with st := 1, clock := s.c.wait * s.c.tries } else chalS (ofDraw { s with st := 1 } d)) else s
def startO (s : Sv) (d : UInt32) : Ot := if s.st = 0 then (if pap s.c then no else sends [chalP (ofDraw s d)]) else no
/-- Whether it claims a packet, and the name in it. -/
def claims (s : Sv) (p : Pk) : Bool :=
  if pap s.c then decide (s.st = 1) && decide (Pap.asE p.c p.d = 0) else s.opn && decide (Chp.rdE p.c p.d = 0) && decide (p.c = 2) && decide (p.i = s.id)
def nameIn (s : Sv) (p : Pk) : ByteArray := if claims s p then (if pap s.c then Pap.asT p.c p.d 0 else Chp.rdB p.c p.d) else bOf []
/-- Whether what it claims is good. -/
def well (s : Sv) (p : Pk) (secret : ByteArray) : Bool :=
  if pap s.c then decide (Pap.asT p.c p.d 1 = secret) else Chp.ckB p.c p.i p.d s.id secret s.value && (!decide (s.st = 2) || decide (nameIn s p = s.who))
def ans (c : Cf) (i : UInt8) (w : Bool) : Pk := if pap c then ⟨if w then 2 else 3, i, bOf [0]⟩ else ⟨if w then 3 else 4, i, bOf []⟩
def packS (s : Sv) (p : Pk) (secret : ByteArray) (known : Bool) : Sv :=
  if claims s p then
    (if known && well s p secret then
      { s with opn := false, last := p, reply := ans s.c p.i true, clock := s.c.again, st := if s.st = 1 then 2 else s.st, who := if s.st = 1 then nameIn s p else s.who }
    else if !pap s.c || decide (s.c.tries ≤ s.bad + 1) then { s with bad := s.bad + 1, st := 3, opn := false }
    else { s with bad := s.bad + 1 })
  else s
def packO (s : Sv) (p : Pk) (secret : ByteArray) (known : Bool) : Ot :=
  if claims s p then
    (if known && well s p secret then ⟨decide (s.st = 1), false, if s.st = 1 then nameIn s p else bOf [], [ans s.c p.i true]⟩
    else ⟨false, !pap s.c || decide (s.c.tries ≤ s.bad + 1), bOf [], [ans s.c p.i false]⟩)
  else if s.st = 2 ∧ p.c = s.last.c ∧ p.i = s.last.i ∧ p.d = s.last.d then sends [s.reply] else no
/-- Whether its clock goes. -/
def goes (s : Sv) : Bool := decide (s.st = 1) || (decide (s.st = 2) && !pap s.c && decide (0 < s.c.again))
def tickS (s : Sv) (d : UInt32) : Sv :=
  if goes s then
    (if 0 < s.clock - 1 then { s with clock := s.clock - 1 }
    else if s.opn && decide (s.sent < s.c.tries) then chalS { s with clock := s.clock - 1 }
    else if !s.opn && decide (s.st = 2) then chalS (ofDraw { s with clock := s.clock - 1 } d)
    else { s with clock := s.clock - 1, st := 3, opn := false })
  else s
def tickO (s : Sv) (d : UInt32) : Ot :=
  if goes s then
    (if 0 < s.clock - 1 then no
    else if s.opn && decide (s.sent < s.c.tries) then sends [chalP s]
    else if !s.opn && decide (s.st = 2) then sends [chalP (ofDraw s d)]
    else ⟨false, true, bOf [], []⟩)
  else no

/-! ### the client -/
structure Cl where
  c : Cf
  name : ByteArray
  secret : ByteArray
  st : Nat
  id : UInt8
  has : Bool
  sent : Int
  clock : Int
def newC (c : Cf) (name secret : ByteArray) : Cl := ⟨c, name, secret, 0, 0, false, 0, 0⟩
/-- It requests. -/
def reqS (s : Cl) : Cl := { s with id := s.id + 1, sent := s.sent + 1, clock := s.c.wait }
def reqP (s : Cl) : Pk := pkO (joinE [s.name, s.secret]) 1 (s.id + 1) (joinS [s.name, s.secret])
def cstartS (s : Cl) : Cl := if s.st = 0 then (if pap s.c then reqS { s with st := 1 } else { s with st := 1 }) else s
def cstartO (s : Cl) : Ot := if s.st = 0 then (if pap s.c then sends [reqP s] else no) else no
/-- What a packet is to it: 0 nothing, 1 a challenge, 2 an answer. -/
def whatC (s : Cl) (p : Pk) : Nat :=
  if s.st = 0 ∨ s.st = 3 then 0
  else if pap s.c then (if s.st = 1 ∧ Pap.anE p.c p.d = 0 ∧ p.i = s.id then 2 else 0)
  else if Chp.rdE p.c p.d = 0 ∧ p.c = 1 then 1
  else if Chp.anE p.c p.d = 0 ∧ s.has = true ∧ p.i = s.id then 2 else 0
def wellC (s : Cl) (p : Pk) : Bool := if pap s.c then Pap.anW p.c p.d else Chp.anW p.c p.d
def respP (s : Cl) (p : Pk) : Pk := pkO (Chp.chE (Chp.rdA p.c p.d) s.name) 2 p.i (Chp.vn (Chp.dg p.i s.secret (Chp.rdA p.c p.d)) s.name)
def cpackS (s : Cl) (p : Pk) : Cl :=
  if whatC s p = 1 then { s with id := p.i, has := true }
  else if whatC s p = 2 then { s with st := if wellC s p then 2 else 3 } else s
def cpackO (s : Cl) (p : Pk) : Ot :=
  if whatC s p = 1 then sends [respP s p]
  else if whatC s p = 2 then (if wellC s p then ⟨decide (s.st = 1), false, bOf [], []⟩ else ⟨false, true, bOf [], []⟩) else no
def ctickS (s : Cl) : Cl :=
  if s.st = 1 ∧ pap s.c = true then
    (if 0 < s.clock - 1 then { s with clock := s.clock - 1 }
    else if s.sent < s.c.tries then reqS { s with clock := s.clock - 1 }
    else { s with clock := s.clock - 1, st := 3 })
  else s
def ctickO (s : Cl) : Ot :=
  if s.st = 1 ∧ pap s.c = true then
    (if 0 < s.clock - 1 then no
    else if s.sent < s.c.tries then sends [reqP s]
    else ⟨false, true, bOf [], []⟩)
  else no

/-! ### what a server that knows another secret comes to: never done -/
theorem value_size (d : UInt32) : (valueD d).size = 16 := by rw [valueD, size_bOf, md5_length]
/-- Nothing that a client of another secret sends is good. -/
theorem not_well {s : Sv} {p : Pk} {secret : ByteArray} (h : well s p secret = false) (known : Bool) (hs : s.st ≠ 2) : (packS s p secret known).st ≠ 2 := by
  unfold packS
  rw [h, Bool.and_false]
  split
  · split
    · rename_i e; cases e
    · split
      · show (3 : Nat) ≠ 2; decide
      · exact hs
  · exact hs
theorem start_not (s : Sv) (d : UInt32) (hs : s.st ≠ 2) : (startS s d).st ≠ 2 := by
  unfold startS
  split
  · split
    · show (1 : Nat) ≠ 2; decide
    · show (1 : Nat) ≠ 2; decide
  · exact hs
theorem tick_not (s : Sv) (d : UInt32) (hs : s.st ≠ 2) : (tickS s d).st ≠ 2 := by
  unfold tickS
  split
  · split
    · exact hs
    · split
      · exact hs
      · split
        · exact hs
        · show (3 : Nat) ≠ 2; decide
  · exact hs
end Go.Proofs.YtpfbknbloeilmaaDoor.Ath
