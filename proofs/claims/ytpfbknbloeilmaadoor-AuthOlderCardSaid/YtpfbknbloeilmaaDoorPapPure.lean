/- What a row of texts reads as; packets of PAP. Plain mathematics, of no program. -/
import Derived.Test.YtpfbknbloeilmaaDoorPure
namespace Go.Proofs.YtpfbknbloeilmaaDoor.Pap
open Go.Proofs.YtpfbknbloeilmaaDoor.Oct

/-- The n texts whose bytes stand ahead, and the rest. -/
def rdN : Nat → List UInt8 → Option (List (List UInt8) × List UInt8)
  | 0, s => some ([], s)
  | n + 1, s => match r8 s with | none => none | some (t, r) => (rdN n r).map fun p => (t :: p.1, p.2)
theorem rdN_step {n : Nat} {s t r : List UInt8} (h : r8 s = some (t, r)) : rdN (n + 1) s = (rdN n r).map fun p => (t :: p.1, p.2) := by rw [rdN, h]
theorem rdN_bad {n : Nat} {s : List UInt8} (h : r8 s = none) : rdN (n + 1) s = none := by rw [rdN, h]

/-- Behind k of n texts of d: these, and what is left. -/
def Part (n : Nat) (d : List UInt8) (k : Nat) (ts : List (List UInt8)) (r : List UInt8) : Prop :=
  ts.length = k ∧ r.length ≤ d.length ∧ rdN n d = (rdN (n - k) r).map fun p => (ts ++ p.1, p.2)
theorem Part.start (n : Nat) (d : List UInt8) : Part n d 0 [] d := ⟨rfl, Nat.le_refl _, by show _ = (rdN n d).map _; cases rdN n d <;> rfl⟩
theorem Part.step {n k : Nat} {d r t r' : List UInt8} {ts : List (List UInt8)} (h : Part n d k ts r) (hk : k < n) (hr : r8 r = some (t, r')) : Part n d (k + 1) (ts ++ [t]) r' := by
  have hl := r8_len hr
  refine ⟨by rw [List.length_append, h.1]; rfl, by have := h.2.1; omega, ?_⟩
  rw [h.2.2, show n - k = (n - (k + 1)) + 1 by omega, rdN_step hr]
  cases rdN (n - (k + 1)) r' with
  | none => rfl
  | some p => simp
theorem Part.bad {n k : Nat} {d r : List UInt8} {ts : List (List UInt8)} (h : Part n d k ts r) (hk : k < n) (hr : r8 r = none) : rdN n d = none := by
  rw [h.2.2, show n - k = (n - (k + 1)) + 1 by omega, rdN_bad hr]; rfl
theorem Part.ends {n : Nat} {d r : List UInt8} {ts : List (List UInt8)} (h : Part n d n ts r) : rdN n d = some (ts, r) := by
  rw [h.2.2, Nat.sub_self, rdN]; simp

/-- What is wrong with d, of which n texts are asked; and these. -/
def rdE (n : Nat) (d : List UInt8) : Int := match rdN n d with | none => 6 | some (_, []) => 0 | some (_, _ :: _) => 7
def rdT (n : Nat) (d : List UInt8) : List ByteArray := match rdN n d with | some (ts, []) => ts.map bOf | _ => List.replicate n (bOf [])
theorem rd_end {n : Nat} {d : List UInt8} (h : rdN n d = none) : rdE n d = 6 ∧ rdT n d = List.replicate n (bOf []) := by simp [rdE, rdT, h]
theorem rd_ok {n : Nat} {d : List UInt8} {ts : List (List UInt8)} (h : rdN n d = some (ts, [])) : rdE n d = 0 ∧ rdT n d = ts.map bOf := by simp [rdE, rdT, h]
theorem rd_form {n : Nat} {d c : List UInt8} {ts : List (List UInt8)} (h : rdN n d = some (ts, c)) (hc : c ≠ []) : rdE n d = 7 ∧ rdT n d = List.replicate n (bOf []) := by
  cases c with
  | nil => exact absurd rfl hc
  | cons => simp [rdE, rdT, h]
theorem rdN_length {n : Nat} : ∀ {d r : List UInt8} {ts : List (List UInt8)}, rdN n d = some (ts, r) → ts.length = n ∧ ok8 ts ∧ d = jn8 ts ++ r := by
  induction n with
  | zero => intro d r ts h; simp [rdN] at h; obtain ⟨rfl, rfl⟩ := h; exact ⟨rfl, fun _ h => (by cases h), rfl⟩
  | succ n ih =>
    intro d r ts h
    rcases hr : r8 d with _ | ⟨t, r'⟩
    · rw [rdN_bad hr] at h; cases h
    · rw [rdN_step hr] at h
      rcases hq : rdN n r' with _ | ⟨us, q⟩
      · rw [hq] at h; cases h
      · rw [hq] at h
        simp only [Option.map_some, Option.some.injEq, Prod.mk.injEq] at h
        obtain ⟨rfl, rfl⟩ := h
        have hl := r8_len hr
        have hi := ih hq
        refine ⟨by rw [List.length_cons, hi.1], fun u hu => ?_, ?_⟩
        · rcases List.mem_cons.1 hu with rfl | hu
          · exact hl.2.1
          · exact hi.2.1 u hu
        · rw [hl.2.2, hi.2.2, jn8]; simp
theorem rdN_jn : ∀ (ts : List (List UInt8)) (r : List UInt8), ok8 ts → rdN ts.length (jn8 ts ++ r) = some (ts, r)
  | [], r, _ => rfl
  | t :: ts, r, h => by
    rw [List.length_cons, jn8, List.cons_append, List.append_assoc, rdN_step (r8_jn t (jn8 ts ++ r) (h t (by simp))), rdN_jn ts r (fun u hu => h u (by simp [hu]))]
    rfl
theorem rdE_zero {n : Nat} {d : List UInt8} (h : rdE n d = 0) : ∃ ts, rdN n d = some (ts, []) ∧ ts.length = n ∧ ok8 ts ∧ d = jn8 ts := by
  unfold rdE at h
  split at h
  · cases h
  · rename_i ts hts
    have := rdN_length hts
    exact ⟨ts, hts, this.1, this.2.1, by rw [this.2.2, List.append_nil]⟩
  · cases h
theorem rdT_length (n : Nat) (d : List UInt8) : (rdT n d).length = n := by
  unfold rdT
  split
  · rename_i ts hts
    rw [List.length_map]
    exact (rdN_length hts).1
  · simp
end Go.Proofs.YtpfbknbloeilmaaDoor.Pap
