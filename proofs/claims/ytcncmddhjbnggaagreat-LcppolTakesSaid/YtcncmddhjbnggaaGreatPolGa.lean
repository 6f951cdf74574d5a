/- What LcppolTakes asks: plain mathematics. -/
import Derived.Test.YtcncmddhjbnggaaGreatPolFa
namespace Go.Proofs.YtcncmddhjbnggaaGreat.Pol
open Go.RowKit Go.Proofs.YtcncmddhjbnggaaGreat.Oct Go.Proofs.YtcncmddhjbnggaaGreat.Row Go.Proofs.YtcncmddhjbnggaaGreat.Mem Go.Proofs.YtcncmddhjbnggaaGreat.Opt Go.Proofs.YtcncmddhjbnggaaGreat.Lco

theorem gL_may (l : List Opt) : may (Lco.gL l) = true := by
  unfold Lco.gL
  cases h : st l with
  | none => rfl
  | some p => exact (st_some h).2.2.1
theorem wish_may {c : Conf} (m : UInt32) (h : mayC c = true) : may (wish c m) = true := by
  unfold mayC at h
  simp only [Bool.and_eq_true, decide_eq_true_eq, Bool.or_eq_true, beq_iff_eq] at h
  rw [may_iff]
  refine ⟨h.1.1.1.1.1.2, fun e => ?_, fun e => ?_, fun e => ?_⟩
  · have e' : (c.mru != 0) = false := e
    show c.mru = 0
    simpa using e'
  · have e' : c.ha = false := e
    have := h.1.1.1.1.1.1.2
    rw [e'] at this
    show c.accm = 0
    simpa using this
  · have e' : c.mg = false := e
    show (if c.mg then nz m else 0) = 0
    rw [e']; rfl
/-- What the wishes are behind a Nak. -/
theorem nk_says (p : Po) (d : UInt32) (l : List Opt) :
    (nkP p d l).w.hm = p.w.hm ∧ (nkP p d l).w.ha = p.w.ha ∧ (nkP p d l).w.hg = p.w.hg ∧ (nkP p d l).w.pfc = p.w.pfc ∧ (nkP p d l).w.acfc = p.w.acfc
    ∧ ((nkP p d l).w.mru ≠ p.w.mru → (Lco.gL l).hm = true ∧ (nkP p d l).w.mru = (Lco.gL l).mru ∧ 64 ≤ (nkP p d l).w.mru)
    ∧ (nkP p d l).w.accm &&& p.w.accm = p.w.accm
    ∧ ((nkP p d l).w.auth = 0 ↔ p.w.auth = 0)
    ∧ ((nkP p d l).w.auth ≠ p.w.auth → (nkP p d l).w.auth = (Lco.gL l).auth)
    ∧ (nkP p d l).bad = p.bad ∧ (nkB l = false → nkP p d l = p) := by
  cases hb : nkB l
  · rw [nk_no hb]
    exact ⟨rfl, rfl, rfl, rfl, rfl, fun h => absurd rfl h, UInt32.eq_of_toBitVec_eq (by simp), Iff.rfl, fun h => absurd rfl h, rfl, fun _ => rfl⟩
  · have e2 : nkP p d l = { p with w := nkW p.c p.w (Lco.gL l) d (fun t => has t (Lco.gL l)) } := by
      unfold nkP
      rw [hb]; rfl
    rw [e2]
    generalize Lco.gL l = x
    refine ⟨rfl, rfl, rfl, rfl, rfl, ?_, ?_, ?_, ?_, rfl, fun h => by cases h⟩
    · intro h
      have h' : (if (has 1 x && p.w.hm && decide (64 ≤ x.mru)) = true then x.mru else p.w.mru) ≠ p.w.mru := h
      by_cases h1 : (has 1 x && p.w.hm && decide (64 ≤ x.mru)) = true
      · have E : (nkW p.c p.w x d (fun t => has t x)).mru = x.mru := if_pos h1
        simp only [Bool.and_eq_true, decide_eq_true_eq] at h1
        exact ⟨h1.1.1, E, by show (64 : UInt16) ≤ (nkW p.c p.w x d (fun t => has t x)).mru; rw [E]; exact h1.2⟩
      · rw [if_neg h1] at h'; exact absurd rfl h'
    · show (if (has 2 x && p.w.ha) = true then p.w.accm ||| x.accm else p.w.accm) &&& p.w.accm = p.w.accm
      apply UInt32.eq_of_toBitVec_eq
      split
      · simp only [UInt32.toBitVec_and, UInt32.toBitVec_or]
        ext i hi
        simp
        cases p.w.accm.toBitVec[i] <;> simp
      · simp
    · show (if (has 3 x && p.w.auth != 0 && p.c.takes &&& x.auth != 0) = true then x.auth else p.w.auth) = 0 ↔ p.w.auth = 0
      split
      · rename_i h1
        simp only [Bool.and_eq_true, bne_iff_ne] at h1
        have h3 : x.auth ≠ 0 := fun e => h1.2 (by rw [e]; apply UInt8.eq_of_toBitVec_eq; simp)
        exact ⟨fun e => absurd e h3, fun e => absurd e h1.1.2⟩
      · exact Iff.rfl
    · show (if (has 3 x && p.w.auth != 0 && p.c.takes &&& x.auth != 0) = true then x.auth else p.w.auth) ≠ p.w.auth → (if (has 3 x && p.w.auth != 0 && p.c.takes &&& x.auth != 0) = true then x.auth else p.w.auth) = x.auth
      split
      · exact fun _ => rfl
      · exact fun h => absurd rfl h
theorem nkP_may {p : Po} (d : UInt32) (l : List Opt) (h : may p.w = true) : may (nkP p d l).w = true := by
  unfold nkP
  split
  · exact nkW_may h (gL_may l)
  · exact h
theorem put_count (x : Lcp) : (put x).length = (has 1 x).toNat + (has 2 x).toNat + (has 3 x).toNat + (has 5 x).toNat + (has 7 x).toNat + (has 8 x).toNat := by
  unfold put six
  simp only [List.filterMap_cons, List.filterMap_nil]
  cases has 1 x <;> cases has 2 x <;> cases has 3 x <;> cases has 5 x <;> cases has 7 x <;> cases has 8 x <;> rfl
theorem drop_no {w : Lcp} {t : UInt8} (ht : known t = true) : has t (dropW w t) = false := by
  rcases known_cases ht with e | e | e | e | e | e <;> subst e <;> rfl
theorem drop_has {w : Lcp} {t u : UInt8} (ht : known t = true) (hu : known u = true) (hn : u ≠ t) : has u (dropW w t) = has u w := by
  rcases known_cases ht with e | e | e | e | e | e <;> subst e <;> rcases known_cases hu with e | e | e | e | e | e <;> subst e <;> first | rfl | exact absurd rfl hn
theorem drop_len {w : Lcp} {t : UInt8} (ht : known t = true) (hh : has t w = true) : (put (dropW w t)).length + 1 = (put w).length := by
  rw [put_count, put_count]
  have h := fun u hu hn => @drop_has w t u ht hu hn
  have h0 := @drop_no w t ht
  rcases known_cases ht with e | e | e | e | e | e <;> subst e
  · rw [h0, hh, h 2 rfl (by decide), h 3 rfl (by decide), h 5 rfl (by decide), h 7 rfl (by decide), h 8 rfl (by decide)]; simp; omega
  · rw [h0, hh, h 1 rfl (by decide), h 3 rfl (by decide), h 5 rfl (by decide), h 7 rfl (by decide), h 8 rfl (by decide)]; simp; omega
  · rw [h0, hh, h 1 rfl (by decide), h 2 rfl (by decide), h 5 rfl (by decide), h 7 rfl (by decide), h 8 rfl (by decide)]; simp; omega
  · rw [h0, hh, h 1 rfl (by decide), h 2 rfl (by decide), h 3 rfl (by decide), h 7 rfl (by decide), h 8 rfl (by decide)]; simp; omega
  · rw [h0, hh, h 1 rfl (by decide), h 2 rfl (by decide), h 3 rfl (by decide), h 5 rfl (by decide), h 8 rfl (by decide)]; simp; omega
  · rw [h0, hh, h 1 rfl (by decide), h 2 rfl (by decide), h 3 rfl (by decide), h 5 rfl (by decide), h 7 rfl (by decide)]; simp
theorem part_in {o : Opt} : ∀ {r : List Opt}, o ∈ r → part [o] r = true
  | [], h => by cases h
  | x :: r, h => by
    unfold part
    by_cases e : x = o
    · rw [if_pos e]
      cases r <;> rfl
    · rw [if_neg e]
      exact part_in ((List.mem_cons.1 h).resolve_left fun h => e h.symm)
/-- One that is asked is rejected: what comes of it. -/
theorem rej_one {q : Po} {o : Opt} (h : o ∈ req q) : rjB q [o] = true ∧ rjP q [o] = dropP q o ∧ (req (dropP q o)).length + 1 = (req q).length ∧ rjB (dropP q o) [o] = false ∧ rjP (dropP q o) [o] = dropP q o ∧ Opt.fB o.1 (req (dropP q o)) = false := by
  obtain ⟨hk, hh⟩ := req_known h
  obtain ⟨h1, h2⟩ := rj_yes (p := q) (l := [o]) (part_in h) (by simp)
  have hno : o ∉ req (dropP q o) := fun hm => by
    have h3 := (req_known hm).2
    rw [show (dropP q o).w = dropW q.w o.1 from rfl, drop_no hk] at h3
    cases h3
  obtain ⟨h3, h4⟩ := rj_no (p := dropP q o) (l := [o]) (part_none [] hno)
  exact ⟨h1, by rw [h2]; rfl, drop_len hk hh, h3, h4, by unfold req; rw [fB_put hk]; exact drop_no hk⟩
end Go.Proofs.YtcncmddhjbnggaaGreat.Pol
