/- What packets of CHAP say, and why they say nothing. Plain mathematics, of no program. -/
import Derived.Test.YtpfbknbloeilmaaDoorGCut
import Derived.Test.YtpfbknbloeilmaaDoorJoin8
import Derived.Test.YtpfbknbloeilmaaDoorMd5Pure
namespace Go.Proofs.YtpfbknbloeilmaaDoor.Chp
open Go.RowKit Go.Proofs.YtpfbknbloeilmaaDoor.Oct Go.Proofs.YtpfbknbloeilmaaDoor.Row Go.Proofs.YtpfbknbloeilmaaDoor.Md5

/-- The value of a response. -/
def dg (i : UInt8) (s v : ByteArray) : ByteArray := bOf (md5 (i :: (s.toList ++ v.toList)))
theorem dg_size (i : UInt8) (s v : ByteArray) : (dg i s v).size = 16 := by rw [dg, size_bOf, md5_length]
/-- Why there is no challenge of this value, and this name. -/
def chE (v n : ByteArray) : Int := if v.size < 1 ∨ 255 < v.size then 2 else if 255 < n.size then 5 else 0
/-- Why there is none by this last text alone. -/
def laE (n : ByteArray) : Int := if 255 < n.size then 5 else 0
theorem chE_arg {v n : ByteArray} (h : v.size < 1 ∨ 255 < v.size) : chE v n = 2 := by rw [chE, if_pos h]
theorem chE_la {v n : ByteArray} (h : ¬ (v.size < 1 ∨ 255 < v.size)) : chE v n = laE n := by rw [chE, if_neg h, laE]
/-- What is returned of a packet that is made, or not. -/
def pkV (E : Int) (c i : UInt8) (d : ByteArray) : Value :=
  if E = 0 then .tuple #[.agg #[.int .u8 c.toNat, .int .u8 i.toNat, .string d], .int .i64 0] else .tuple #[.agg #[.int .u8 0, .int .u8 0, .string (bOf [])], .int .i64 E]
theorem pkV_ok {E : Int} (h : E = 0) (c i : UInt8) (d : ByteArray) : pkV E c i d = .tuple #[.agg #[.int .u8 c.toNat, .int .u8 i.toNat, .string d], .int .i64 0] := by rw [pkV, if_pos h]
theorem pkV_no {E : Int} (h : E ≠ 0) (c i : UInt8) (d : ByteArray) : pkV E c i d = .tuple #[.agg #[.int .u8 0, .int .u8 0, .string (bOf [])], .int .i64 E] := by rw [pkV, if_neg h]
theorem pkV_any (E : Int) (c i : UInt8) (d : ByteArray) : ∃ (a b : UInt8) (s : ByteArray), pkV E c i d = .tuple #[.agg #[.int .u8 a.toNat, .int .u8 b.toNat, .string s], .int .i64 E] ∧ s.size ≤ max d.size 0 := by
  by_cases h : E = 0
  · exact ⟨c, i, d, by rw [pkV_ok h, h], by omega⟩
  · exact ⟨0, 0, bOf [], by rw [pkV_no h]; rfl, by rw [size_bOf]; simp⟩
theorem join_one_yes (s : ByteArray) (h : s.size ≤ 255) : joinE [s] = 0 ∧ joinS [s] = bOf (numS s.size 1) ++ s := by
  have hj := join_yes (l := [s]) (fun u hu => by simp at hu; rw [hu, ← size_toList]; exact h)
  refine ⟨hj.1, ?_⟩
  rw [hj.2, append_bOf, toList_bOf]
  congr 1
  simp [jn8, numS]
  rw [← size_toList, Nat.mod_eq_of_lt (by omega)]
/-- The Data of a value and a name. -/
def vn (v n : ByteArray) : ByteArray := bOf (numS v.size 1) ++ v ++ n
theorem vn_join {v : ByteArray} (h : v.size ≤ 255) (n : ByteArray) : joinS [v] ++ n = vn v n := by rw [vn, (join_one_yes v h).2]
theorem append_none (n : ByteArray) : joinS [] ++ n = n := by
  have : joinS [] = bOf [] := rfl
  rw [this, append_bOf, toList_bOf, List.nil_append, bOf_toList]
theorem vn_size (v n : ByteArray) : (vn v n).size = 1 + v.size + n.size := by
  rw [vn, ByteArray.size_append, ByteArray.size_append, size_bOf, numS_length]
theorem vn_list {v : ByteArray} (h : v.size ≤ 255) (n : ByteArray) : (vn v n).toList = UInt8.ofNat v.size :: (v.toList ++ n.toList) := by
  rw [vn, append_bOf, toList_bOf, append_bOf, toList_bOf, toList_bOf]
  simp [numS]
  rw [Nat.mod_eq_of_lt (by omega)]
theorem vn_read {v : ByteArray} (h : v.size ≤ 255) (n : ByteArray) : r8 (vn v n).toList = some (v.toList, n.toList) := by
  rw [vn_list h, size_toList]
  exact r8_jn _ _ (by rw [← size_toList]; exact h)

/-- What Read answers: of a packet of code c, data d. -/
def rdE (c : UInt8) (d : ByteArray) : Int := if c = 1 ∨ c = 2 then (match r8 d.toList with | none => 6 | some (v, r) => if v = [] then 7 else if 255 < r.length then 5 else 0) else 8
def rdA (c : UInt8) (d : ByteArray) : ByteArray := if rdE c d = 0 then readA d else bOf []
def rdB (c : UInt8) (d : ByteArray) : ByteArray := if rdE c d = 0 then readB d else bOf []
def rdV (c : UInt8) (d : ByteArray) : Value := .tuple #[.string (rdA c d), .string (rdB c d), .int .i64 (rdE c d)]
theorem rdV_bad {c : UInt8} {d : ByteArray} {E : Int} (h : rdE c d = E) (h0 : E ≠ 0) : rdV c d = .tuple #[.string (bOf []), .string (bOf []), .int .i64 E] := by
  rw [rdV, rdA, rdB, h, if_neg h0, if_neg h0]
theorem rd_type {c : UInt8} (d : ByteArray) (h : ¬ (c = 1 ∨ c = 2)) : rdE c d = 8 := by rw [rdE, if_neg h]
theorem rd_end {c : UInt8} {d : ByteArray} (hc : c = 1 ∨ c = 2) (h : r8 d.toList = none) : rdE c d = 6 := by rw [rdE, if_pos hc, h]
theorem rd_form {c : UInt8} {d : ByteArray} {r : List UInt8} (hc : c = 1 ∨ c = 2) (h : r8 d.toList = some ([], r)) : rdE c d = 7 := by rw [rdE, if_pos hc, h]; simp
theorem rd_long {c : UInt8} {d : ByteArray} {v r : List UInt8} (hc : c = 1 ∨ c = 2) (h : r8 d.toList = some (v, r)) (hv : v ≠ []) (hr : 255 < r.length) : rdE c d = 5 := by rw [rdE, if_pos hc, h]; simp [hv, hr]
theorem rd_ok {c : UInt8} {d : ByteArray} {v r : List UInt8} (hc : c = 1 ∨ c = 2) (h : r8 d.toList = some (v, r)) (hv : v ≠ []) (hr : ¬ 255 < r.length) : rdE c d = 0 ∧ rdA c d = bOf v ∧ rdB c d = bOf r := by
  have h0 : rdE c d = 0 := by rw [rdE, if_pos hc, h]; simp [hv]; omega
  have h1 := read_some d v r h
  rw [rdA, rdB, if_pos h0, if_pos h0]
  exact ⟨h0, h1.1, h1.2.1⟩
theorem rdV_ok {c : UInt8} {d : ByteArray} {v r : List UInt8} (hc : c = 1 ∨ c = 2) (h : r8 d.toList = some (v, r)) (hv : v ≠ []) (hr : ¬ 255 < r.length) : rdV c d = .tuple #[.string (bOf v), .string (bOf r), .int .i64 0] := by
  have h1 := rd_ok hc h hv hr
  rw [rdV, h1.1, h1.2.1, h1.2.2]

/-- What Answered answers. -/
def anE (c : UInt8) (d : ByteArray) : Int := if c = 3 ∨ c = 4 then (if 255 < d.size then 5 else 0) else 8
def anW (c : UInt8) (d : ByteArray) : Bool := decide (anE c d = 0) && decide (c = 3)
def anT (c : UInt8) (d : ByteArray) : ByteArray := if anE c d = 0 then d else bOf []
def anV (c : UInt8) (d : ByteArray) : Value := .tuple #[.bool (anW c d), .string (anT c d), .int .i64 (anE c d)]
theorem anV_bad {c : UInt8} {d : ByteArray} {E : Int} (h : anE c d = E) (h0 : E ≠ 0) : anV c d = .tuple #[.bool false, .string (bOf []), .int .i64 E] := by
  rw [anV, anW, anT, h, if_neg h0, decide_eq_false h0]; rfl
theorem an_type {c : UInt8} (d : ByteArray) (h : ¬ (c = 3 ∨ c = 4)) : anE c d = 8 := by rw [anE, if_neg h]
theorem an_long {c : UInt8} {d : ByteArray} (hc : c = 3 ∨ c = 4) (h : 255 < d.size) : anE c d = 5 := by rw [anE, if_pos hc, if_pos h]
theorem an_ok {c : UInt8} {d : ByteArray} (hc : c = 3 ∨ c = 4) (h : ¬ 255 < d.size) : anE c d = 0 := by rw [anE, if_pos hc, if_neg h]
theorem anV_ok {c : UInt8} {d : ByteArray} (h : anE c d = 0) : anV c d = .tuple #[.bool (decide (c = 3)), .string d, .int .i64 0] := by
  rw [anV, anW, anT, h, if_pos rfl]; rfl

/-- Whether a packet is the response. -/
def ckB (c i : UInt8) (d : ByteArray) (id : UInt8) (s v : ByteArray) : Bool := decide (rdE c d = 0 ∧ c = 2 ∧ i = id ∧ rdA c d = dg id s v)
theorem ck_bad {c i : UInt8} {d : ByteArray} (h : rdE c d ≠ 0) (id : UInt8) (s v : ByteArray) : ckB c i d id s v = false := by rw [ckB]; exact decide_eq_false fun e => h e.1
theorem ck_code {c i : UInt8} {d : ByteArray} (h : c ≠ 2) (id : UInt8) (s v : ByteArray) : ckB c i d id s v = false := by rw [ckB]; exact decide_eq_false fun e => h e.2.1
theorem ck_id {c i id : UInt8} {d : ByteArray} (h : i ≠ id) (s v : ByteArray) : ckB c i d id s v = false := by rw [ckB]; exact decide_eq_false fun e => h e.2.2.1
theorem ck_val {d : ByteArray} (h : rdE 2 d = 0) (id : UInt8) (s v : ByteArray) : ckB 2 id d id s v = decide (rdA 2 d = dg id s v) := by
  rw [ckB]
  by_cases e : rdA 2 d = dg id s v
  · rw [decide_eq_true e]; exact decide_eq_true ⟨h, rfl, rfl, e⟩
  · rw [decide_eq_false e]; exact decide_eq_false fun g => e g.2.2.2
theorem str_eq (s t : ByteArray) : (s.toList == t.toList) = decide (s = t) := by
  rw [beq_toList]
  by_cases h : s = t
  · subst h; simp
  · rw [decide_eq_false h, decide_eq_false fun e => h (toList_inj e)]

/-- What was put is read. -/
theorem put_read {c : UInt8} (hc : c = 1 ∨ c = 2) {v n : ByteArray} (h1 : 1 ≤ v.size) (h2 : v.size ≤ 255) (hn : n.size ≤ 255) : rdE c (vn v n) = 0 ∧ rdA c (vn v n) = v ∧ rdB c (vn v n) = n := by
  have hv : v.toList ≠ [] := by intro e; rw [size_toList, e] at h1; simp at h1
  have h := rd_ok hc (vn_read h2 n) hv (by rw [← size_toList]; omega)
  rw [bOf_toList, bOf_toList] at h
  exact h
/-- What is read makes the packet that it was. -/
theorem read_put {c : UInt8} {d : ByteArray} (h : rdE c d = 0) : (c = 1 ∨ c = 2) ∧ chE (rdA c d) (rdB c d) = 0 ∧ vn (rdA c d) (rdB c d) = d ∧ 1 ≤ (rdA c d).size ∧ (rdA c d).size ≤ 255 ∧ (rdB c d).size ≤ 255 := by
  by_cases hc : c = 1 ∨ c = 2
  · refine ⟨hc, ?_⟩
    rcases hr : r8 d.toList with _ | ⟨v, r⟩
    · rw [rd_end hc hr] at h; cases h
    · by_cases hv : v = []
      · subst hv; rw [rd_form hc hr] at h; cases h
      · by_cases hl : 255 < r.length
        · rw [rd_long hc hr hv hl] at h; cases h
        · have h1 := rd_ok hc hr hv hl
          have h2 := r8_len hr
          rw [h1.2.1, h1.2.2]
          have hp : 0 < v.length := List.length_pos_iff.2 hv
          have s1 : (bOf v).size = v.length := size_bOf v
          have s2 : (bOf r).size = r.length := size_bOf r
          refine ⟨?_, ?_, by omega, by have := h2.2.1; omega, by omega⟩
          · rw [chE, if_neg (by have := h2.2.1; omega), if_neg (by omega)]
          · refine toList_inj ?_
            rw [vn_list (by have := h2.2.1; omega), toList_bOf, toList_bOf, s1]
            exact h2.2.2.symm
  · rw [rd_type d hc] at h; cases h
theorem read_none' {c : UInt8} {d : ByteArray} (h : rdE c d ≠ 0) : rdA c d = bOf [] ∧ rdB c d = bOf [] := by rw [rdA, rdB, if_neg h, if_neg h]; exact ⟨rfl, rfl⟩
theorem an_none {c : UInt8} {d : ByteArray} (h : anE c d ≠ 0) : anW c d = false ∧ anT c d = bOf [] := by rw [anW, anT, if_neg h, decide_eq_false h]; exact ⟨rfl, rfl⟩
theorem an_put {c : UInt8} {d : ByteArray} (h : anE c d = 0) : anT c d = d ∧ anW c d = decide (c = 3) ∧ (if anW c d = true then (3 : UInt8) else 4) = c ∧ laE d = 0 := by
  have hc : c = 3 ∨ c = 4 := by
    by_cases hc : c = 3 ∨ c = 4
    · exact hc
    · rw [an_type d hc] at h; cases h
  have hd : ¬ 255 < d.size := fun e => by rw [an_long hc e] at h; cases h
  refine ⟨by rw [anT, if_pos h], by rw [anW, h]; rfl, ?_, by rw [laE, if_neg hd]⟩
  rw [anW, h]
  rcases hc with rfl | rfl <;> rfl
end Go.Proofs.YtpfbknbloeilmaaDoor.Chp
