/- A policy of LCP's options: what is asked, what is said of each option, what a reply changes. Plain mathematics, of no program. -/
import Derived.Test.YtcncmddhjbnggaaGreatLcoPure
namespace Go.Proofs.YtcncmddhjbnggaaGreat.Pol
open Go.Proofs.YtcncmddhjbnggaaGreat.Oct Go.Proofs.YtcncmddhjbnggaaGreat.Opt Go.Proofs.YtcncmddhjbnggaaGreat.Lco

/-- A configuration. -/
structure Conf where
  mru : UInt16
  ha : Bool
  accm : UInt32
  auth : UInt8
  takes : UInt8
  can : UInt8
  mg : Bool
  pfc : Bool
  acfc : Bool
  mn : Int
deriving DecidableEq
def cv (c : Conf) : List Value := [.int .u16 c.mru.toNat, .bool c.ha, .int .u32 c.accm.toNat, .int .u8 c.auth.toNat, .int .u8 c.takes.toNat, .int .u8 c.can.toNat, .bool c.mg, .bool c.pfc, .bool c.acfc, .int .i64 c.mn]
/-- A policy: its wishes, conf, what was acked, what the peer's is, Naks in a row, loops, whether it is bad. -/
structure Po where
  w : Lcp
  c : Conf
  mine : Lcp
  peer : Lcp
  naks : Nat
  loops : Nat
  bad : Bool
/-- Its cells, the program's and the document's. -/
def pv (p : Po) : List Value := lv p.w ++ (cv p.c ++ (lv p.mine ++ (lv p.peer ++ [.int .i64 p.naks, .int .i64 p.loops, .bool p.bad])))
def dv (p : Po) : List Value := cv p.c ++ (lv p.w ++ (lv p.mine ++ (lv p.peer ++ [.int .i64 p.naks, .int .i64 p.loops, .bool p.bad])))

def fits (a t : UInt8) : Bool := if a = 0 then t == 0 else t &&& a != 0
/-- Whether a configuration is valid. -/
def mayC (c : Conf) : Bool := (c.mru == 0 || decide (64 ≤ c.mru)) && (c.ha || c.accm == 0) && decide (c.auth ≤ 2) && decide (c.takes ≤ 3) && decide (c.can ≤ 3) && fits c.auth c.takes && decide (1 ≤ c.mn) && decide (c.mn ≤ 10)
def nz (v : UInt32) : UInt32 := if v = 0 then 1 else v
def wish (c : Conf) (m : UInt32) : Lcp := ⟨c.mru != 0, c.mru, c.ha, c.accm, c.auth, c.mg, if c.mg then nz m else 0, c.pfc, c.acfc⟩
def newP (c : Conf) (m : UInt32) : Po := ⟨wish c m, c, lz, lz, 0, 0, false⟩
def req (p : Po) : List Opt := put p.w

/-! ### what is said of an option -/
def isOwn (w x : Lcp) : Bool := w.hg && x.hg && x.magic == w.magic
def lo (o : Opt) : Lcp := gL [o]
def bet (p : Po) (t : UInt8) (x : Lcp) : Lcp :=
  if t = 1 then { x with mru := if x.mru < 64 then 64 else x.mru }
  else if t = 3 then { x with auth := if p.c.can &&& x.auth != 0 then x.auth else if p.c.can &&& 2 != 0 then 2 else 1 }
  else if t = 5 then (if x.magic != 0 && !isOwn p.w x then x else if isOwn p.w { x with magic := nz (~~~ x.magic) } then { x with magic := 1 } else { x with magic := nz (~~~ x.magic) })
  else x
def sug (p : Po) (o : Opt) : Opt := (o.1, dat o.1 (bet p o.1 (lo o)))
def acc (p : Po) (o : Opt) : Bool := if o.1 = 3 then p.c.can != 0 else good o
/-- How a received option is judged. -/
structure Ver where
  got : Opt
  rej : Bool
  bet : Opt
deriving DecidableEq
def zo : Opt := (0, ByteArray.empty)
def seen (l : List Opt) (t : UInt8) : Bool := l.any fun o => o.1 == t
def ver (p : Po) (l : List Opt) (o : Opt) : Ver := if seen l o.1 || !acc p o then ⟨o, true, zo⟩ else ⟨o, false, sug p o⟩
def vs (p : Po) (l : List Opt) : List Ver := (List.range l.length).map fun i => ver p (l.take i) (l.getD i zo)
def poor (v : Ver) : Bool := !v.rej && !decide (v.bet = v.got)
def refs (l : List Ver) : List Opt := l.filterMap fun v => if v.rej then some v.got else none
def poors (l : List Ver) : List Opt := l.filterMap fun v => if poor v then some v.got else none
def insts (l : List Ver) : List Opt := l.filterMap fun v => if poor v then some v.bet else none
def own (p : Po) (l : List Opt) : Bool := l.any fun o => isOwn p.w (lo o)

/-- Judge. -/
def loopP (p : Po) (l : List Opt) : Po := if own p l then { p with loops := p.loops + 1 } else p
def jC (p : Po) (l : List Opt) : Nat := if refs (vs p l) ≠ [] then 4 else if poors (vs p l) ≠ [] then (if (p.naks : Int) = p.c.mn then 4 else 3) else 2
def jA (p : Po) (l : List Opt) : List Opt := if refs (vs p l) ≠ [] then refs (vs p l) else if poors (vs p l) ≠ [] then (if (p.naks : Int) = p.c.mn then poors (vs p l) else insts (vs p l)) else l
def jP (p : Po) (l : List Opt) : Po :=
  if refs (vs p l) ≠ [] then { loopP p l with naks := 0 }
  else if poors (vs p l) ≠ [] then (if (p.naks : Int) = p.c.mn then { loopP p l with naks := 0 } else { loopP p l with naks := p.naks + 1 })
  else { loopP p l with naks := 0, peer := gL l }

/-! ### replies -/
def akB (p : Po) (l : List Opt) : Bool := decide (l = req p)
def akP (p : Po) (l : List Opt) : Po := if akB p l then { p with mine := p.w } else p
def nkB (l : List Opt) : Bool := decide (l ≠ []) && gE l == 0
/-- The wishes, once those of the types in m were gone by. -/
def nkW (c : Conf) (w x : Lcp) (d : UInt32) (m : UInt8 → Bool) : Lcp :=
  { w with
    mru := if m 1 && w.hm && decide (64 ≤ x.mru) then x.mru else w.mru
    accm := if m 2 && w.ha then w.accm ||| x.accm else w.accm
    auth := if m 3 && w.auth != 0 && c.takes &&& x.auth != 0 then x.auth else w.auth
    magic := if m 5 && w.hg then nz d else w.magic }
def nkP (p : Po) (d : UInt32) (l : List Opt) : Po := if nkB l then { p with w := nkW p.c p.w (gL l) d (fun t => has t (gL l)) } else p
def dropW (w : Lcp) (t : UInt8) : Lcp :=
  if t = 1 then { w with hm := false, mru := 0 } else if t = 2 then { w with ha := false, accm := 0 } else if t = 3 then { w with auth := 0 } else if t = 5 then { w with hg := false, magic := 0 } else if t = 7 then { w with pfc := false } else if t = 8 then { w with acfc := false } else w
def dropP (p : Po) (o : Opt) : Po := { p with w := dropW p.w o.1, bad := p.bad || o.1 == 3 }
/-- Whether all of l stands in whole, in its order. -/
def part : List Opt → List Opt → Bool
  | [], _ => true
  | _ :: _, [] => false
  | o :: l, x :: r => if x = o then part l r else part (o :: l) r
def rjB (p : Po) (l : List Opt) : Bool := decide (l ≠ []) && part l (req p)
def rjP (p : Po) (l : List Opt) : Po := if rjB p l then l.foldl dropP p else p

/-! ### rows of verdicts -/
theorem vs_nil (p : Po) : vs p [] = [] := rfl
theorem vs_snoc (p : Po) (l : List Opt) (k : Nat) (o : Opt) (h : l[k]? = some o) : vs p (l.take (k + 1)) = vs p (l.take k) ++ [ver p (l.take k) o] := by
  obtain ⟨hk, rfl⟩ := List.getElem?_eq_some_iff.1 h
  unfold vs
  have e1 : (l.take (k + 1)).length = k + 1 := by rw [List.length_take]; omega
  have e0 : (l.take k).length = k := by rw [List.length_take]; omega
  rw [e1, e0, List.range_succ, List.map_append, List.map_cons, List.map_nil]
  congr 1
  · apply List.map_congr_left
    intro i hi
    have hi' : i < k := List.mem_range.1 hi
    rw [List.take_take, List.take_take, Nat.min_eq_left (by omega), Nat.min_eq_left (by omega)]
    congr 1
    rw [List.getD_eq_getElem?_getD, List.getD_eq_getElem?_getD, List.getElem?_take_of_lt (by omega), List.getElem?_take_of_lt hi']
  · rw [List.take_take, Nat.min_eq_left (by omega)]
    congr 2
    rw [List.getD_eq_getElem?_getD, List.getElem?_take_of_lt (by omega), List.getElem?_eq_getElem hk]
    rfl
theorem vs_length (p : Po) (l : List Opt) : (vs p l).length = l.length := by unfold vs; simp
theorem seen_snoc (l : List Opt) (k : Nat) (o : Opt) (h : l[k]? = some o) (t : UInt8) : seen (l.take (k + 1)) t = (seen (l.take k) t || o.1 == t) := by
  obtain ⟨hk, rfl⟩ := List.getElem?_eq_some_iff.1 h
  unfold seen
  rw [List.take_succ_eq_append_getElem hk, List.any_append]
  simp
theorem own_snoc (p : Po) (l : List Opt) (k : Nat) (o : Opt) (h : l[k]? = some o) : own p (l.take (k + 1)) = (own p (l.take k) || isOwn p.w (lo o)) := by
  obtain ⟨hk, rfl⟩ := List.getElem?_eq_some_iff.1 h
  unfold own
  rw [List.take_succ_eq_append_getElem hk, List.any_append]
  simp
end Go.Proofs.YtcncmddhjbnggaaGreat.Pol
