/- A policy of IPCP's options: what is asked, what is said of each option, what a reply changes. Plain mathematics, of no program. -/
import Derived.Test.YtikcgcgbcolndaaGreatG15
import Derived.Test.YtikcgcgbcolndaaGreatG29
namespace Go.Proofs.YtikcgcgbcolndaaGreat.Ipp
open Go.Proofs.YtikcgcgbcolndaaGreat.Oct Go.Proofs.YtikcgcgbcolndaaGreat.Opt Go.Proofs.YtikcgcgbcolndaaGreat.Ipc

/-- A configuration. -/
structure Conf where
  addr : UInt32
  peer : UInt32
  dns1 : UInt32
  dns2 : UInt32
  want : Bool
  mn : Int
deriving DecidableEq
def cv (c : Conf) : List Value := [.int .u32 c.addr.toNat, .int .u32 c.peer.toNat, .int .u32 c.dns1.toNat, .int .u32 c.dns2.toNat, .bool c.want, .int .i64 c.mn]
/-- A policy: its wishes, conf, what was acked, what the peer's is, Naks in a row. -/
structure Po where
  w : Ipc
  c : Conf
  mine : Ipc
  peer : Ipc
  naks : Nat
/-- Its cells, the program's and the document's. -/
def pv (p : Po) : List Value := lv p.w ++ (cv p.c ++ (lv p.mine ++ (lv p.peer ++ [.int .i64 p.naks])))
def dv (p : Po) : List Value := cv p.c ++ (lv p.w ++ (lv p.mine ++ (lv p.peer ++ [.int .i64 p.naks])))

/-- Whether a configuration is valid. -/
def mayC (c : Conf) : Bool := decide (1 ≤ c.mn) && decide (c.mn ≤ 10)
def wish (c : Conf) : Ipc := ⟨true, c.addr, c.want, 0, c.want, 0⟩
def newP (c : Conf) : Po := ⟨wish c, c, lz, lz, 0⟩
def req (p : Po) : List Opt := put p.w

/-! ### what is said of an option -/
def lo (o : Opt) : Ipc := gL [o]
def ad (o : Opt) : UInt32 := UInt32.ofNat (val o.2.toList)
/-- The address that an option must have; 0: any. -/
def giv (p : Po) (t : UInt8) : UInt32 := if t = 3 then p.c.peer else if t = 129 then p.c.dns1 else p.c.dns2
def or32 (a b : UInt32) : UInt32 := if a = 0 then b else a
/-- What the program's function says: a struct. -/
def bet (p : Po) (t : UInt8) (x : Ipc) : Ipc :=
  if t = 3 then ⟨or32 p.c.peer x.addr != 0, or32 p.c.peer x.addr, false, 0, false, 0⟩
  else if t = 129 then ⟨false, 0, p.c.dns1 != 0, p.c.dns1, false, 0⟩
  else ⟨false, 0, false, 0, p.c.dns2 != 0, p.c.dns2⟩
/-- The address that is suggested. -/
def sa (p : Po) (t : UInt8) (x : Ipc) : UInt32 := if t = 3 then or32 p.c.peer x.addr else giv p t
def zo : Opt := (0, ByteArray.empty)
def ok (p : Po) (o : Opt) : Bool := good o && sa p o.1 (lo o) != 0
def sug (p : Po) (o : Opt) : Opt := (o.1, bOf (numS (sa p o.1 (lo o)).toNat 4))
def imp (p : Po) (o : Opt) : Opt := if ok p o then sug p o else zo
/-- How a received option is judged. -/
structure Ver where
  got : Opt
  rej : Bool
  bet : Opt
deriving DecidableEq
def seen (l : List Opt) (t : UInt8) : Bool := l.any fun o => o.1 == t
def ver (p : Po) (l : List Opt) (o : Opt) : Ver := ⟨o, seen l o.1 || !ok p o, imp p o⟩
def vs (p : Po) (l : List Opt) : List Ver := (List.range l.length).map fun i => ver p (l.take i) (l.getD i zo)
def poor (v : Ver) : Bool := !v.rej && !decide (v.bet = v.got)
def refs (l : List Ver) : List Opt := l.filterMap fun v => if v.rej then some v.got else none
def poors (l : List Ver) : List Opt := l.filterMap fun v => if poor v then some v.got else none
def insts (l : List Ver) : List Opt := l.filterMap fun v => if poor v then some v.bet else none
/-- An address that lacks. -/
def miss (p : Po) (l : List Opt) : List Opt := if fB 3 l then [] else put (bet p 3 lz)
def sugs (p : Po) (l : List Opt) : List Opt := insts (vs p l) ++ miss p l

/-- Judge: which way. -/
inductive Way | rej | nak | poor | ack
deriving DecidableEq
def way (p : Po) (l : List Opt) : Way := if refs (vs p l) ≠ [] then .rej else if sugs p l ≠ [] ∧ (p.naks : Int) < p.c.mn then .nak else if poors (vs p l) ≠ [] then .poor else .ack
def jC (p : Po) (l : List Opt) : Nat := match way p l with | .rej => 4 | .nak => 3 | .poor => 4 | .ack => 2
def jA (p : Po) (l : List Opt) : List Opt := match way p l with | .rej => refs (vs p l) | .nak => sugs p l | .poor => poors (vs p l) | .ack => l
def jP (p : Po) (l : List Opt) : Po := match way p l with | .rej => { p with naks := 0 } | .nak => { p with naks := p.naks + 1 } | .poor => { p with naks := 0 } | .ack => { p with naks := 0, peer := gL l }

/-! ### replies -/
def akB (p : Po) (l : List Opt) : Bool := decide (l = req p)
def akP (p : Po) (l : List Opt) : Po := if akB p l then { p with mine := p.w } else p
def nkB (l : List Opt) : Bool := decide (l ≠ []) && gE l == 0
/-- The wishes, once those of the types in m were gone by. -/
def nkW (c : Conf) (w x : Ipc) (m : UInt8 → Bool) : Ipc :=
  { w with
    addr := if m 3 && c.addr == 0 then or32 x.addr w.addr else w.addr
    dns1 := if m 129 then or32 x.dns1 w.dns1 else w.dns1
    dns2 := if m 131 then or32 x.dns2 w.dns2 else w.dns2 }
def nkP (p : Po) (l : List Opt) : Po := if nkB l then { p with w := nkW p.c p.w (gL l) (fun t => has t p.w) } else p
def dropW (w : Ipc) (t : UInt8) : Ipc :=
  if t = 3 then { w with ha := false, addr := 0 } else if t = 129 then { w with h1 := false, dns1 := 0 } else if t = 131 then { w with h2 := false, dns2 := 0 } else w
def dropP (p : Po) (o : Opt) : Po := { p with w := dropW p.w o.1 }
/-- Whether all of l stands in whole, in its order. -/
def part : List Opt → List Opt → Bool
  | [], _ => true
  | _ :: _, [] => false
  | o :: l, x :: r => if x = o then part l r else part (o :: l) r
def rjB (p : Po) (l : List Opt) : Bool := decide (l ≠ []) && part l (req p)
def rjP (p : Po) (l : List Opt) : Po := if rjB p l then l.foldl dropP p else p

/-! ### rows of verdicts -/
theorem vs_nil (p : Po) : vs p [] = [] := rfl
theorem vs_snoc (p : Po) (l : List Opt) (k : Nat) (o : Opt) (h : l[k]? = some o) : vs p (l.take (k + 1)) = vs p (l.take k) ++ [ver p (l.take k) o] := by
  obtain ⟨hk, rfl⟩ := List.getElem?_eq_some_iff.1 h
  unfold vs
  have e1 : (l.take (k + 1)).length = k + 1 := by rw [List.length_take]; omega
  have e0 : (l.take k).length = k := by rw [List.length_take]; omega
  rw [e1, e0, List.range_succ, List.map_append, List.map_cons, List.map_nil]
  congr 1
  · apply List.map_congr_left
    intro i hi
    have hi' : i < k := List.mem_range.1 hi
    rw [List.take_take, List.take_take, Nat.min_eq_left (by omega), Nat.min_eq_left (by omega)]
    congr 1
    rw [List.getD_eq_getElem?_getD, List.getD_eq_getElem?_getD, List.getElem?_take_of_lt (by omega), List.getElem?_take_of_lt hi']
  · rw [List.take_take, Nat.min_eq_left (by omega)]
    congr 2
    rw [List.getD_eq_getElem?_getD, List.getElem?_take_of_lt (by omega), List.getElem?_eq_getElem hk]
    rfl
theorem vs_length (p : Po) (l : List Opt) : (vs p l).length = l.length := by unfold vs; simp
theorem seen_snoc (l : List Opt) (k : Nat) (o : Opt) (h : l[k]? = some o) (t : UInt8) : seen (l.take (k + 1)) t = (seen (l.take k) t || o.1 == t) := by
  obtain ⟨hk, rfl⟩ := List.getElem?_eq_some_iff.1 h
  unfold seen
  rw [List.take_succ_eq_append_getElem hk, List.any_append]
  simp

/-! ### one option -/
theorem st_one (o : Opt) : st [o] = if good o then some (say lz o, []) else some (lz, [o]) := by
  have h := st_snoc [] o
  rw [List.nil_append, st_nil] at h
  rw [h]
  unfold Ipc.step
  cases hg : good o
  · simp
  · have hh : has o.1 lz = false := by rcases known_cases (good_known hg) with e | e | e <;> rw [e] <;> rfl
    simp only [if_true, hh, Bool.false_eq_true, if_false]
theorem lo_good {o : Opt} (h : good o = true) : lo o = say lz o := by unfold lo Ipc.gL; rw [st_one, if_pos h]
theorem lo_bad {o : Opt} (h : good o = false) : lo o = lz := by unfold lo Ipc.gL; rw [st_one, h]; rfl
theorem lo_addr {o : Opt} (h : good o = true) (h3 : o.1 = 3) : (lo o).addr = ad o := by
  rw [lo_good h]
  unfold say Ipc.set
  rw [if_pos h3]
  rfl
theorem ok_good {p : Po} {o : Opt} (h : ok p o = true) : good o = true := (Bool.and_eq_true_iff.1 h).1
theorem ok_known {p : Po} {o : Opt} (h : ok p o = true) : known o.1 = true := good_known (ok_good h)
theorem bne0 {v : UInt32} (h : (v != 0) = false) : v = 0 := by simpa using h
/-- What the functions say may be put, and is found again. -/
theorem bet_may (p : Po) (t : UInt8) (x : Ipc) : may (bet p t x) = true := by
  rw [may_iff]
  unfold bet
  split
  · exact ⟨fun h => bne0 h, fun _ => rfl, fun _ => rfl⟩
  · split
    · exact ⟨fun _ => rfl, fun h => bne0 h, fun _ => rfl⟩
    · exact ⟨fun _ => rfl, fun _ => rfl, fun h => bne0 h⟩
theorem put3 (b : Bool) (a : UInt32) : put ⟨b, a, false, 0, false, 0⟩ = if b then [(3, bOf (numS a.toNat 4))] else [] := by cases b <;> rfl
theorem put129 (b : Bool) (a : UInt32) : put ⟨false, 0, b, a, false, 0⟩ = if b then [(129, bOf (numS a.toNat 4))] else [] := by cases b <;> rfl
theorem put131 (b : Bool) (a : UInt32) : put ⟨false, 0, false, 0, b, a⟩ = if b then [(131, bOf (numS a.toNat 4))] else [] := by cases b <;> rfl
theorem put_bet {p : Po} {t : UInt8} (ht : known t = true) (x : Ipc) : put (bet p t x) = if sa p t x != 0 then [(t, bOf (numS (sa p t x).toNat 4))] else [] := by
  rcases known_cases ht with e | e | e <;> subst e
  · exact put3 _ _
  · exact put129 _ _
  · exact put131 _ _
theorem find_bet {p : Po} {o : Opt} (h : good o = true) : fA o.1 (put (bet p o.1 (lo o))) = imp p o ∧ fB o.1 (put (bet p o.1 (lo o))) = ok p o := by
  rw [put_bet (good_known h)]
  unfold imp ok sug
  rw [h]
  cases hb : (sa p o.1 (lo o) != 0)
  · exact ⟨rfl, rfl⟩
  · have hf : fd o.1 [((o.1, bOf (numS (sa p o.1 (lo o)).toNat 4)) : Opt)] = some (o.1, bOf (numS (sa p o.1 (lo o)).toNat 4)) := by
      unfold fd
      rw [List.find?_cons, show ((((o.1, bOf (numS (sa p o.1 (lo o)).toNat 4)) : Opt).1 == o.1)) = true from beq_self_eq_true _]
    simp only [if_true, Bool.and_self]
    unfold fA fB
    rw [hf]
    exact ⟨rfl, rfl⟩
theorem sug_size (p : Po) (o : Opt) : (sug p o).2.size = 4 := by
  show (bOf (numS _ 4)).size = 4
  rw [size_bOf, numS_length]
theorem imp_size (p : Po) (o : Opt) : (imp p o).2.size ≤ 4 := by
  unfold imp
  split
  · rw [sug_size]; exact Nat.le_refl _
  · exact Nat.zero_le _
theorem miss_eq (p : Po) (l : List Opt) : miss p l = if fB 3 l then [] else if p.c.peer != 0 then [(3, bOf (numS p.c.peer.toNat 4))] else [] := by
  unfold miss
  split
  · rfl
  · rw [put_bet rfl]
    have : sa p 3 lz = p.c.peer := by
      show or32 p.c.peer 0 = _
      unfold or32
      split
      · rename_i e; exact e.symm
      · rfl
    rw [this]
end Go.Proofs.YtikcgcgbcolndaaGreat.Ipp
