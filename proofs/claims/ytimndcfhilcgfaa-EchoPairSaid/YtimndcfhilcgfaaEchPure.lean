/- An echo: its state, what each call makes of it, what is sent. Plain mathematics, of no program. -/
import Derived.Test.YtimndcfhilcgfaaPks
namespace Go.Proofs.Ytimndcfhilcgfaa.Ech
open Go.RowKit Go.Proofs.Ytimndcfhilcgfaa.Oct Go.Proofs.Ytimndcfhilcgfaa.Mem

/-- The greatest time. -/
def mx : Int := 1152921504606846976
/-- An echo: Every, Most, its magic number, the time, that of the last request, how many were sent, how many are missed, whether it is dead. -/
structure Ec where
  ev : Nat
  mo : Nat
  mg : Nat
  now : Int
  si : Int
  n : Nat
  mi : Nat
  de : Bool
/-- Its cells in the program, and in the document's answer. -/
def pv (x : Ec) : List Value := [.int .i64 x.ev, .int .i64 x.now, .int .i64 x.si, .int .i64 x.mo, .int .u32 x.mg, .bool (decide (0 < x.n)), .int .u8 (x.n % 256 : Nat), .int .i64 x.mi, .bool x.de]
def dv (x : Ec) : List Value := [.int .i64 x.ev, .int .i64 x.mo, .int .u32 x.mg, .int .i64 x.now, .int .i64 x.si, .int .i64 x.n, .int .i64 x.mi, .bool x.de]
structure Inv (x : Ec) : Prop where
  ev : x.ev ≤ 100000
  mo1 : 1 ≤ x.mo
  mo2 : x.mo ≤ 20
  mg : x.mg < 4294967296
  si0 : 0 ≤ x.si
  si1 : x.si ≤ x.now
  now : x.now ≤ mx
  mi : x.mi ≤ x.mo
  mn : 0 < x.mi → 0 < x.n
def may (e m t : Int) : Bool := decide (0 ≤ e) && decide (e ≤ 100000) && decide (1 ≤ m) && decide (m ≤ 20) && decide (0 ≤ t) && decide (t ≤ mx)
/-- Next. -/
def isB (x : Ec) : Bool := !(decide (x.ev = 0) || x.de)
def atV (x : Ec) : Int := if isB x then x.si + x.ev else 0
/-- The text of the own magic number. -/
def own (x : Ec) : ByteArray := bOf (numS x.mg 4)
/-- Tick. -/
def tE (x : Ec) (t : Int) : Nat := if t < x.now ∨ mx < t then 2 else 0
def dueB (x : Ec) (t : Int) : Bool := isB x && decide (x.si + x.ev ≤ t)
def ask (x : Ec) (t : Int) : Ec := if dueB x t then (if x.mi = x.mo then { x with now := t, de := true } else { x with now := t, n := x.n + 1, mi := x.mi + 1, si := t }) else { x with now := t }
def tk (x : Ec) (t : Int) : Ec := if tE x t = 0 then ask x t else x
def askL (x : Ec) (t : Int) : List Pk := if dueB x t && !decide (x.mi = x.mo) then [⟨9, UInt8.ofNat ((x.n + 1) % 256), own x⟩] else []
def tL (x : Ec) (t : Int) : List Pk := if tE x t = 0 then askL x t else []
/-- Packet. -/
def loopB (x : Ec) (d : ByteArray) : Bool := !decide (x.mg = 0) && (bOf (d.toList.take 4)).toList == (own x).toList
def lateB (x : Ec) (i : UInt8) : Bool := decide (x.n = 0) || !decide (i.toNat = x.n % 256)
def pE (x : Ec) (p : Pk) : Nat :=
  if p.c.toNat ≠ 9 ∧ p.c.toNat ≠ 10 ∧ p.c.toNat ≠ 11 then 8 else if p.d.size < 4 then 6 else if loopB x p.d then 170 else if p.c.toNat = 10 ∧ lateB x p.i = true then 3 else 0
def gt (x : Ec) (p : Pk) : Ec := if pE x p = 0 ∧ p.c.toNat = 10 then { x with mi := 0 } else x
def pL (x : Ec) (p : Pk) : List Pk := if pE x p = 0 ∧ p.c.toNat = 9 then [⟨10, p.i, own x ++ bOf (p.d.toList.drop 4)⟩] else []

theorem ask_inv {x : Ec} {t : Int} (h : Inv x) (h1 : x.now ≤ t) (h2 : t ≤ mx) : Inv (ask x t) := by
  have h0 := h.si0
  have h3 := h.si1
  unfold ask
  split
  · split
    · exact ⟨h.ev, h.mo1, h.mo2, h.mg, h.si0, by show x.si ≤ t; omega, h2, h.mi, h.mn⟩
    · have := h.mi
      exact ⟨h.ev, h.mo1, h.mo2, h.mg, by show 0 ≤ t; omega, Int.le_refl _, h2, by show x.mi + 1 ≤ x.mo; omega, fun _ => Nat.succ_pos _⟩
  · exact ⟨h.ev, h.mo1, h.mo2, h.mg, h.si0, by show x.si ≤ t; omega, h2, h.mi, h.mn⟩
theorem tE_ok {x : Ec} {t : Int} (h : tE x t = 0) : x.now ≤ t ∧ t ≤ mx := by
  unfold tE at h
  split at h
  · cases h
  · rename_i hn
    exact ⟨Int.not_lt.1 fun e => hn (.inl e), Int.not_lt.1 fun e => hn (.inr e)⟩
theorem tk_inv {x : Ec} {t : Int} (h : Inv x) : Inv (tk x t) := by
  unfold tk
  split
  · rename_i he
    exact ask_inv h (tE_ok he).1 (tE_ok he).2
  · exact h
theorem gt_inv {x : Ec} {p : Pk} (h : Inv x) : Inv (gt x p) := by
  unfold gt
  split
  · exact ⟨h.ev, h.mo1, h.mo2, h.mg, h.si0, h.si1, h.now, Nat.zero_le _, fun e => absurd e (Nat.lt_irrefl 0)⟩
  · exact h
theorem tL_len (x : Ec) (t : Int) : (tL x t).length ≤ 1 := by unfold tL askL; split <;> (try split) <;> simp
theorem pL_len (x : Ec) (p : Pk) : (pL x p).length ≤ 1 := by unfold pL; split <;> simp
theorem tk_n (x : Ec) (t : Int) : (tk x t).n ≤ x.n + 1 := by unfold tk ask; split <;> (try split) <;> (try split) <;> simp
theorem gt_n (x : Ec) (p : Pk) : (gt x p).n = x.n := by unfold gt; split <;> rfl
theorem size_own (x : Ec) : (own x).size = 4 := by unfold own; rw [size_bOf, numS_length]
end Go.Proofs.Ytimndcfhilcgfaa.Ech
