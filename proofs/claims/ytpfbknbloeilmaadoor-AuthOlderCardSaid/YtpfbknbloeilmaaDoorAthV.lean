/- What stays so of a server, and of a client. Plain mathematics. -/
import Derived.Test.YtpfbknbloeilmaaDoorAthD
import Derived.Test.YtpfbknbloeilmaaDoorAthQ
namespace Go.Proofs.YtpfbknbloeilmaaDoor.Ath
open Go.RowKit Go.Proofs.YtpfbknbloeilmaaDoor.Oct Go.Proofs.YtpfbknbloeilmaaDoor.Row Go.Proofs.YtpfbknbloeilmaaDoor.Mem Go.Proofs.YtpfbknbloeilmaaDoor.Md5

structure May (c : Cf) : Prop where
  kd : c.kind = 1 ∨ c.kind = 2
  tr1 : 1 ≤ c.tries
  tr2 : c.tries ≤ 20
  wt1 : 1 ≤ c.wait
  wt2 : c.wait ≤ 1000
  ag1 : 0 ≤ c.again
  ag2 : c.again ≤ 100000
theorem may_of {c : Cf} (h : mayC c = true) : May c := by
  unfold mayC at h
  simp only [Bool.and_eq_true, decide_eq_true_eq, Bool.or_eq_true, beq_iff_eq] at h
  obtain ⟨⟨⟨⟨⟨⟨h1, h2⟩, h3⟩, h4⟩, h5⟩, h6⟩, h7⟩ := h
  exact ⟨h1, h2, h3, h4, h5, h6, h7⟩
theorem inv_new {c : Cf} {own : ByteArray} (hm : mayC c = true) (hw : own.size ≤ 255) : Inv (newS c own) := by
  have h := may_of hm
  exact ⟨h.kd, h.tr1, h.tr2, h.wt1, h.wt2, h.ag1, h.ag2, hw, by show 0 ≤ 3; omega, fun _ => rfl, fun e => (by cases e), fun e => (by cases e), fun e => (by cases e), by show (0 : Int) ≤ 0; omega, by show (0 : Int) ≤ 20; omega, by show (0 : Int) ≤ 0; omega, by show (0 : Int) ≤ 20; omega, fun _ e => (by cases e), fun _ _ => rfl, fun _ => rfl, fun e => (by cases e), by show (0 : Int) ≤ 100000; omega, fun e => (by cases e)⟩
/-- It challenges. -/
theorem inv_chal {s : Sv} (hi : Inv s) (hp : pap s.c = false) (hs : s.st = 1 ∨ s.st = 2) (h0 : 0 ≤ s.sent) (h1 : s.sent < 20) (hv : s.value.size = 16) (k : Int) : Inv (chalS { s with clock := k }) :=
  ⟨hi.kd, hi.tr1, hi.tr2, hi.wt1, hi.wt2, hi.ag1, hi.ag2, hi.own, hi.st, fun e => (by rw [show pap s.c = true from e] at hp; cases hp), fun _ => hv, fun _ => hs, fun _ _ => rfl, by show 0 ≤ s.sent + 1; omega, by show s.sent + 1 ≤ 20; omega, hi.bd0, hi.bd1, hi.bd2, hi.bd3, hi.bd4, fun _ => hi.wt1, by show s.c.wait ≤ 100000; have := hi.wt2; omega, hi.rp⟩
theorem inv_draw {s : Sv} (hi : Inv s) (hp : pap s.c = false) (hs : s.st = 1 ∨ s.st = 2) (d : UInt32) (k : Int) : Inv (chalS (ofDraw { s with clock := k } d)) :=
  ⟨hi.kd, hi.tr1, hi.tr2, hi.wt1, hi.wt2, hi.ag1, hi.ag2, hi.own, hi.st, fun e => (by rw [show pap s.c = true from e] at hp; cases hp), fun _ => value_size d, fun _ => hs, fun _ _ => rfl, by show (0 : Int) ≤ 0 + 1; omega, by show (0 : Int) + 1 ≤ 20; omega, hi.bd0, hi.bd1, hi.bd2, hi.bd3, hi.bd4, fun _ => hi.wt1, by show s.c.wait ≤ 100000; have := hi.wt2; omega, hi.rp⟩
theorem inv_fail {s : Sv} (hi : Inv s) (k b : Int) (h0 : 0 ≤ b) (h1 : b ≤ 20) (hk : k ≤ 100000) : Inv { s with clock := k, bad := b, st := 3, opn := false } :=
  ⟨hi.kd, hi.tr1, hi.tr2, hi.wt1, hi.wt2, hi.ag1, hi.ag2, hi.own, by show 3 ≤ 3; omega, fun _ => rfl, fun e => (by cases e), fun e => (by cases e), fun e => (by cases e), hi.se0, hi.se1, h0, h1, fun _ e => (by cases e), fun _ e => absurd rfl e, fun e => (by cases e), fun e => (by cases e), hk, fun e => (by cases e)⟩
theorem inv_start {s : Sv} (hi : Inv s) (d : UInt32) : Inv (startS s d) := by
  unfold startS
  by_cases h0 : s.st = 0
  · rw [if_pos h0]
    cases hp : pap s.c
    · simp only [Bool.false_eq_true, if_false]
      exact ⟨hi.kd, hi.tr1, hi.tr2, hi.wt1, hi.wt2, hi.ag1, hi.ag2, hi.own, by show 1 ≤ 3; omega, fun e => (by rw [show pap s.c = true from e] at hp; cases hp), fun _ => value_size d, fun _ => .inl rfl, fun _ _ => rfl, by show (0 : Int) ≤ 0 + 1; omega, by show (0 : Int) + 1 ≤ 20; omega, hi.bd0, hi.bd1, fun e => (by rw [show pap s.c = true from e] at hp; cases hp), fun _ _ => hi.bd4 h0, fun e => (by cases e), fun _ => hi.wt1, by show s.c.wait ≤ 100000; have := hi.wt2; omega, fun e => (by cases e)⟩
    · simp only [if_true]
      have h1 : 1 * 1 ≤ s.c.wait * s.c.tries := Int.mul_le_mul hi.wt1 hi.tr1 (by omega) (by have := hi.wt1; omega)
      have h2 : s.c.wait * s.c.tries ≤ 1000 * 20 := Int.mul_le_mul hi.wt2 hi.tr2 (by have := hi.tr1; omega) (by omega)
      exact ⟨hi.kd, hi.tr1, hi.tr2, hi.wt1, hi.wt2, hi.ag1, hi.ag2, hi.own, by show 1 ≤ 3; omega, hi.po, hi.vl, fun e => (by rw [hi.po hp] at e; cases e), fun _ e => (by rw [show pap s.c = false from e] at hp; cases hp), hi.se0, hi.se1, hi.bd0, hi.bd1, fun _ _ => by show s.bad < s.c.tries; have := hi.bd4 h0; have := hi.tr1; omega, fun e => (by rw [show pap s.c = false from e] at hp; cases hp), fun e => (by cases e), fun _ => by show 1 ≤ s.c.wait * s.c.tries; omega, by show s.c.wait * s.c.tries ≤ 100000; omega, fun e => (by cases e)⟩
  · rw [if_neg h0]; exact hi
theorem inv_pack {s : Sv} (hi : Inv s) (p : Pk) (secret : ByteArray) (known : Bool) : Inv (packS s p secret known) := by
  unfold packS
  cases hc : claims s p
  · exact hi
  · simp only [if_true]
    have hst : s.st = 1 ∨ (s.st = 2 ∧ pap s.c = false) := by
      unfold claims at hc
      cases hp : pap s.c
      · rw [if_neg (by rw [hp]; decide)] at hc
        simp only [Bool.and_eq_true] at hc
        rcases hi.op hc.1.1.1 with e | e
        · exact .inl e
        · exact .inr ⟨e, rfl⟩
      · rw [if_pos hp] at hc
        simp only [Bool.and_eq_true, decide_eq_true_eq] at hc
        exact .inl hc.1
    cases hw : (known && well s p secret)
    · simp only [Bool.false_eq_true, if_false]
      cases hp : pap s.c
      · simp only [Bool.not_false, Bool.true_or, if_true]
        have hb := hi.bd1
        have hb0 := hi.bd0
        have := hi.tr2
        have hb3 := hi.bd3 hp (by omega)
        exact inv_fail hi s.clock (s.bad + 1) (by omega) (by omega) hi.ck1
      · have hs1 : s.st = 1 := by
          rcases hst with e | e
          · exact e
          · rw [hp] at e; cases e.2
        have hb2 := hi.bd2 hp hs1
        have := hi.tr2
        have := hi.bd0
        simp only [Bool.not_true, Bool.false_or, decide_eq_true_eq]
        by_cases hd : s.c.tries ≤ s.bad + 1
        · rw [if_pos hd]
          exact inv_fail hi s.clock (s.bad + 1) (by omega) (by omega) hi.ck1
        · rw [if_neg hd]
          exact ⟨hi.kd, hi.tr1, hi.tr2, hi.wt1, hi.wt2, hi.ag1, hi.ag2, hi.own, hi.st, hi.po, hi.vl, hi.op, hi.bs, hi.se0, hi.se1, by show 0 ≤ s.bad + 1; omega, by show s.bad + 1 ≤ 20; omega, fun _ _ => by show s.bad + 1 < s.c.tries; omega, fun e => (by rw [show pap s.c = false from e] at hp; cases hp), fun e => (by rw [show s.st = 0 from e] at hs1; cases hs1), hi.ck0, hi.ck1, hi.rp⟩
    · simp only [if_true]
      have hst2 : (if s.st = 1 then 2 else s.st) = 2 := by
        rcases hst with e | e
        · rw [if_pos e]
        · rw [if_neg (by omega)]; exact e.1
      refine ⟨hi.kd, hi.tr1, hi.tr2, hi.wt1, hi.wt2, hi.ag1, hi.ag2, hi.own, ?_, fun _ => rfl, fun e => (by cases e), fun e => (by cases e), fun e => ?_, hi.se0, hi.se1, hi.bd0, hi.bd1, fun _ e => ?_, fun e _ => hi.bd3 e (by omega), fun e => ?_, fun e => ?_, ?_, fun _ => rfl⟩
      · show (if s.st = 1 then 2 else s.st) ≤ 3; rw [hst2]; omega
      · have e' : (if s.st = 1 then 2 else s.st) = 1 := e
        rw [hst2] at e'; cases e'
      · have e' : (if s.st = 1 then 2 else s.st) = 1 := e
        rw [hst2] at e'; cases e'
      · have e' : (if s.st = 1 then 2 else s.st) = 0 := e
        rw [hst2] at e'; cases e'
      · unfold goes at e
        have e1 : (if s.st = 1 then 2 else s.st) = 1 ∨ ((if s.st = 1 then 2 else s.st) = 2 ∧ pap s.c = false) ∧ 0 < s.c.again := by
          simpa only [Bool.or_eq_true, Bool.and_eq_true, decide_eq_true_eq, Bool.not_eq_true'] using e
        rcases e1 with e1 | e1
        · rw [hst2] at e1; cases e1
        · show 1 ≤ s.c.again; omega
      · show s.c.again ≤ 100000; exact hi.ag2
theorem inv_tick {s : Sv} (hi : Inv s) (d : UInt32) : Inv (tickS s d) := by
  unfold tickS
  cases hg : goes s
  · exact hi
  · simp only [if_true]
    have hck := hi.ck0 hg
    have hst : s.st = 1 ∨ (s.st = 2 ∧ pap s.c = false) := by
      unfold goes at hg
      simp only [Bool.or_eq_true, Bool.and_eq_true, decide_eq_true_eq, Bool.not_eq_true'] at hg
      rcases hg with e | e
      · exact .inl e
      · exact .inr e.1
    by_cases ht : 0 < s.clock - 1
    · rw [if_pos ht]
      exact ⟨hi.kd, hi.tr1, hi.tr2, hi.wt1, hi.wt2, hi.ag1, hi.ag2, hi.own, hi.st, hi.po, hi.vl, hi.op, hi.bs, hi.se0, hi.se1, hi.bd0, hi.bd1, hi.bd2, hi.bd3, hi.bd4, fun _ => by show 1 ≤ s.clock - 1; omega, by show s.clock - 1 ≤ 100000; have := hi.ck1; omega, hi.rp⟩
    · rw [if_neg ht]
      cases ho : (s.opn && decide (s.sent < s.c.tries))
      · simp only [Bool.false_eq_true, if_false]
        cases h2 : (!s.opn && decide (s.st = 2))
        · simp only [Bool.false_eq_true, if_false]
          exact inv_fail hi (s.clock - 1) s.bad hi.bd0 hi.bd1 (by have := hi.ck1; omega)
        · simp only [if_true]
          simp only [Bool.and_eq_true, decide_eq_true_eq] at h2
          have hp : pap s.c = false := by
            rcases hst with e | e
            · omega
            · exact e.2
          exact inv_draw hi hp (.inr h2.2) d (s.clock - 1)
      · simp only [if_true]
        simp only [Bool.and_eq_true, decide_eq_true_eq] at ho
        have hp : pap s.c = false := by
          cases hp : pap s.c
          · rfl
          · rw [hi.po hp] at ho; cases ho.1
        exact inv_chal hi hp (hi.op ho.1) hi.se0 (by have := hi.tr2; omega) (hi.vl ho.1) (s.clock - 1)

/-! ### the client -/
theorem invC_new {c : Cf} {name secret : ByteArray} (hm : mayC c = true) (hn : name.size ≤ 255) (hz : secret.size ≤ 255) : InvC (newC c name secret) := by
  have h := may_of hm
  exact ⟨h.kd, h.tr1, h.tr2, h.wt1, h.wt2, hn, hz, by show (0 : Int) ≤ 0; omega, by show (0 : Int) ≤ 20; omega, fun e => (by cases e), by show 0 ≤ 3; omega, fun _ => rfl, by show (0 : Int) ≤ 1000; omega⟩
theorem invC_start {s : Cl} (hi : InvC s) : InvC (cstartS s) := by
  unfold cstartS
  by_cases h0 : s.st = 0
  · rw [if_pos h0]
    cases hp : pap s.c
    · simp only [Bool.false_eq_true, if_false]
      exact ⟨hi.kd, hi.tr1, hi.tr2, hi.wt1, hi.wt2, hi.name, hi.sec, hi.se0, hi.se1, fun _ e => (by rw [show pap s.c = true from e] at hp; cases hp), by show 1 ≤ 3; omega, fun e => (by cases e), hi.ck1⟩
    · simp only [if_true]
      have := hi.s0 h0
      exact ⟨hi.kd, hi.tr1, hi.tr2, hi.wt1, hi.wt2, hi.name, hi.sec, by show 0 ≤ s.sent + 1; omega, by show s.sent + 1 ≤ 20; omega, fun _ _ => hi.wt1, by show 1 ≤ 3; omega, fun e => (by cases e), hi.wt2⟩
  · rw [if_neg h0]; exact hi
theorem invC_pack {s : Cl} (hi : InvC s) (p : Pk) : InvC (cpackS s p) := by
  unfold cpackS
  split
  · exact ⟨hi.kd, hi.tr1, hi.tr2, hi.wt1, hi.wt2, hi.name, hi.sec, hi.se0, hi.se1, hi.ck0, hi.st, hi.s0, hi.ck1⟩
  · split
    · refine ⟨hi.kd, hi.tr1, hi.tr2, hi.wt1, hi.wt2, hi.name, hi.sec, hi.se0, hi.se1, fun e => ?_, ?_, fun e => ?_, hi.ck1⟩
      · have e' : (if wellC s p then 2 else 3) = 1 := e
        split at e' <;> cases e'
      · show (if wellC s p then 2 else 3) ≤ 3
        split <;> omega
      · have e' : (if wellC s p then 2 else 3) = 0 := e
        split at e' <;> cases e'
    · exact hi
theorem invC_tick {s : Cl} (hi : InvC s) : InvC (ctickS s) := by
  unfold ctickS
  by_cases hg : s.st = 1 ∧ pap s.c = true
  · rw [if_pos hg]
    have hck := hi.ck0 hg.1 hg.2
    by_cases ht : 0 < s.clock - 1
    · rw [if_pos ht]
      exact ⟨hi.kd, hi.tr1, hi.tr2, hi.wt1, hi.wt2, hi.name, hi.sec, hi.se0, hi.se1, fun _ _ => by show 1 ≤ s.clock - 1; omega, hi.st, hi.s0, by show s.clock - 1 ≤ 1000; have := hi.ck1; omega⟩
    · rw [if_neg ht]
      by_cases hlt : s.sent < s.c.tries
      · rw [if_pos hlt]
        have := hi.tr2
        have := hi.se0
        exact ⟨hi.kd, hi.tr1, hi.tr2, hi.wt1, hi.wt2, hi.name, hi.sec, by show 0 ≤ s.sent + 1; omega, by show s.sent + 1 ≤ 20; omega, fun _ _ => hi.wt1, hi.st, fun e => by have e' : s.st = 0 := e; omega, hi.wt2⟩
      · rw [if_neg hlt]
        exact ⟨hi.kd, hi.tr1, hi.tr2, hi.wt1, hi.wt2, hi.name, hi.sec, hi.se0, hi.se1, fun e => (by cases e), by show 3 ≤ 3; omega, fun e => (by cases e), by show s.clock - 1 ≤ 1000; have := hi.ck1; omega⟩
  · rw [if_neg hg]; exact hi
end Go.Proofs.YtpfbknbloeilmaaDoor.Ath
