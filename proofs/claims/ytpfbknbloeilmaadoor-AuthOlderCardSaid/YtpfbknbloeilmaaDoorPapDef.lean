/- What pap's calls answer. Plain mathematics, of no program. -/
import Derived.Test.YtpfbknbloeilmaaDoorPapPure
import Derived.Test.YtpfbknbloeilmaaDoorJoin8
namespace Go.Proofs.YtpfbknbloeilmaaDoor.Pap
open Go.RowKit Go.Proofs.YtpfbknbloeilmaaDoor.Oct Go.Proofs.YtpfbknbloeilmaaDoor.Row

theorem rdT_bad {n : Nat} {d : List UInt8} (h : rdE n d ≠ 0) : rdT n d = List.replicate n (bOf []) := by
  rcases hr : rdN n d with _ | ⟨ts, c⟩
  · exact (rd_end hr).2
  · by_cases hc : c = []
    · subst hc
      exact absurd (rd_ok hr).1 h
    · exact (rd_form hr hc).2

/-- What Asked answers. -/
def asE (c : UInt8) (d : ByteArray) : Int := if c = 1 then rdE 2 d.toList else 8
def asT (c : UInt8) (d : ByteArray) (k : Nat) : ByteArray := if c = 1 then (rdT 2 d.toList).getD k (bOf []) else bOf []
def asV (c : UInt8) (d : ByteArray) : Value := .tuple #[.string (asT c d 0), .string (asT c d 1), .int .i64 (asE c d)]
theorem asV_no {c : UInt8} (h : c ≠ 1) (d : ByteArray) : asV c d = .tuple #[.string (bOf []), .string (bOf []), .int .i64 8] := by simp [asV, asT, asE, h]
theorem asV_yes (d : ByteArray) : ∃ a b, rdT 2 d.toList = [a, b] ∧ asV 1 d = .tuple #[.string a, .string b, .int .i64 (rdE 2 d.toList)] := by
  have hl := rdT_length 2 d.toList
  match hq : rdT 2 d.toList, hl with
  | [a, b], _ => exact ⟨a, b, rfl, by simp [asV, asT, asE, hq]⟩

/-- What Answered answers. -/
def anE (c : UInt8) (d : ByteArray) : Int := if c = 2 ∨ c = 3 then rdE 1 d.toList else 8
def anT (c : UInt8) (d : ByteArray) : ByteArray := if c = 2 ∨ c = 3 then (rdT 1 d.toList).getD 0 (bOf []) else bOf []
def anW (c : UInt8) (d : ByteArray) : Bool := decide (c = 2) && decide (rdE 1 d.toList = 0)
def anV (c : UInt8) (d : ByteArray) : Value := .tuple #[.bool (anW c d), .string (anT c d), .int .i64 (anE c d)]

theorem rd_one_end {d : List UInt8} (h : r8 d = none) : rdN 1 d = none := by rw [rdN_bad h]
theorem rd_one {d t r : List UInt8} (h : r8 d = some (t, r)) : rdN 1 d = some ([t], r) := by rw [rdN_step h]; rfl
theorem rd_two_end {d : List UInt8} (h : r8 d = none) : rdN 2 d = none := by rw [rdN_bad h]
theorem rd_two_end' {d t r : List UInt8} (h : r8 d = some (t, r)) (h' : r8 r = none) : rdN 2 d = none := by rw [rdN_step h, rd_one_end h']; rfl
theorem rd_two {d t r t' r' : List UInt8} (h : r8 d = some (t, r)) (h' : r8 r = some (t', r')) : rdN 2 d = some ([t, t'], r') := by rw [rdN_step h, rd_one h']; rfl
theorem asV_end {d : ByteArray} (h : rdN 2 d.toList = none) : asV 1 d = .tuple #[.string (bOf []), .string (bOf []), .int .i64 6] := by simp [asV, asT, asE, rd_end h]
theorem asV_form {d : ByteArray} {ts : List (List UInt8)} {r : List UInt8} (h : rdN 2 d.toList = some (ts, r)) (hr : r ≠ []) : asV 1 d = .tuple #[.string (bOf []), .string (bOf []), .int .i64 7] := by simp [asV, asT, asE, rd_form h hr]
theorem asV_ok {d : ByteArray} {t t' : List UInt8} (h : rdN 2 d.toList = some ([t, t'], [])) : asV 1 d = .tuple #[.string (bOf t), .string (bOf t'), .int .i64 0] := by simp [asV, asT, asE, rd_ok h]
theorem anV_end {c : UInt8} (hc : c = 2 ∨ c = 3) {d : ByteArray} (h : rdN 1 d.toList = none) : anV c d = .tuple #[.bool false, .string (bOf []), .int .i64 6] := by simp [anV, anT, anE, anW, hc, rd_end h]
theorem anV_form {c : UInt8} (hc : c = 2 ∨ c = 3) {d : ByteArray} {ts : List (List UInt8)} {r : List UInt8} (h : rdN 1 d.toList = some (ts, r)) (hr : r ≠ []) : anV c d = .tuple #[.bool false, .string (bOf []), .int .i64 7] := by simp [anV, anT, anE, anW, hc, rd_form h hr]
theorem anV_ok {c : UInt8} (hc : c = 2 ∨ c = 3) {d : ByteArray} {t : List UInt8} (h : rdN 1 d.toList = some ([t], [])) : anV c d = .tuple #[.bool (decide (c = 2)), .string (bOf t), .int .i64 0] := by simp [anV, anT, anE, anW, hc, rd_ok h]
/-- A packet of the texts l, or none. -/
def pkB (l : List ByteArray) (c : UInt8) : UInt8 := if joinE l = 0 then c else 0
def pkV (c i : UInt8) (l : List ByteArray) : Value := .tuple #[.agg #[.int .u8 (pkB l c).toNat, .int .u8 (pkB l i).toNat, .string (joinS l)], .int .i64 (joinE l)]
theorem join_bad {l : List ByteArray} (h : joinE l ≠ 0) : joinE l = 5 ∧ joinS l = bOf [] := by
  unfold joinE joinS at *
  split at h
  · exact absurd rfl h
  · rename_i ha
    rw [if_neg ha, if_neg ha]
    exact ⟨rfl, rfl⟩
theorem pkV_no {c i : UInt8} {l : List ByteArray} (h : joinE l ≠ 0) : pkV c i l = .tuple #[.agg #[.int .u8 0, .int .u8 0, .string (bOf [])], .int .i64 5] := by
  simp [pkV, pkB, h, (join_bad h).1, (join_bad h).2]
theorem pkV_ok {c i : UInt8} {l : List ByteArray} (h : joinE l = 0) : pkV c i l = .tuple #[.agg #[.int .u8 c.toNat, .int .u8 i.toNat, .string (joinS l)], .int .i64 0] := by
  simp [pkV, pkB, h]

/-- Whether a packet asks with just these. -/
def ckB (c : UInt8) (d a b : ByteArray) : Bool := decide (asE c d = 0 ∧ asT c d 0 = a ∧ asT c d 1 = b)
end Go.Proofs.YtpfbknbloeilmaaDoor.Pap
