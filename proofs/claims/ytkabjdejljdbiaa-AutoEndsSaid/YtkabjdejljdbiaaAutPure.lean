/- An automaton with its counter and its timer, as a function on numbers. -/
import Derived.Test.YtkabjdejljdbiaaFsmNx
namespace Go.Proofs.Ytkabjdejljdbiaa.Aut
open Go.RowKit Go.Proofs.Ytkabjdejljdbiaa.Oct Go.Proofs.Ytkabjdejljdbiaa.Row Go.Proofs.Ytkabjdejljdbiaa.Mem Go.Proofs.Ytkabjdejljdbiaa.Fsm

/-- An automaton: its conf (restart, maxConf, maxTerm), state, counter, ticks left. -/
structure Au where
  r : Nat
  mc : Nat
  mt : Nat
  s : Nat
  c : Nat
  l : Nat
def av (x : Au) : List Value := [.int .i64 x.r, .int .i64 x.mc, .int .i64 x.mt, .int .u8 x.s, .int .i64 x.c, .int .i64 x.l]

/-- What an action of a set does. -/
def eff (set a : Nat) (x : Au) : Au :=
  if a = 16 then { x with c := if has set 512 then x.mt else x.mc }
  else if a = 32 then { x with c := 0, l := x.r }
  else if a = 64 ∨ a = 512 then { x with c := x.c - 1, l := x.r }
  else x
def actsL (set : Nat) (l : List Nat) (x : Au) : Au := l.foldl (fun y a => eff set a y) x
theorem actsL_snoc (set : Nat) (l : List Nat) (a : Nat) (x : Au) : actsL set (l ++ [a]) x = eff set a (actsL set l x) := by unfold actsL; rw [List.foldl_append]; rfl
def acts (set : Nat) (x : Au) : Au := actsL set (bitsTo set 13) x
theorem acts_more (set k : Nat) (x : Au) : actsL set (bitsTo set (k + 1)) x = if has set (2 ^ k) then eff set (2 ^ k) (actsL set (bitsTo set k) x) else actsL set (bitsTo set k) x := by
  rw [bitsTo_more, has_bit]
  cases set.testBit k
  · rfl
  · exact actsL_snoc _ _ _ _
theorem eff_other (set a : Nat) (x : Au) (h : (decide (a = 16) || decide (a = 32) || decide (a = 64) || decide (a = 512)) = false) : eff set a x = x := by
  simp only [Bool.or_eq_false_iff, decide_eq_false_iff_not] at h
  unfold eff
  rw [if_neg h.1.1.1, if_neg h.1.1.2, if_neg (by omega)]
theorem acts_skip (set k : Nat) (x : Au) (h : (decide (2 ^ k = 16) || decide (2 ^ k = 32) || decide (2 ^ k = 64) || decide (2 ^ k = 512)) = false) : actsL set (bitsTo set (k + 1)) x = actsL set (bitsTo set k) x := by
  rw [acts_more, eff_other set _ _ h, ite_self]
theorem acts_nil (set : Nat) (x : Au) : actsL set (bitsTo set 0) x = x := rfl
theorem acts_is (set : Nat) (x : Au) : acts set x =
    (let y0 := if has set 16 then eff set 16 x else x
     let y1 := if has set 32 then eff set 32 y0 else y0
     let y2 := if has set 64 then eff set 64 y1 else y1
     if has set 512 then eff set 512 y2 else y2) := by
  unfold acts
  rw [acts_skip set 12 x (by decide), acts_skip set 11 x (by decide), acts_skip set 10 x (by decide), acts_more set 9, acts_skip set 8 x (by decide), acts_skip set 7 x (by decide), acts_more set 6, acts_more set 5, acts_more set 4, acts_skip set 3 x (by decide), acts_skip set 2 x (by decide), acts_skip set 1 x (by decide), acts_skip set 0 x (by decide), acts_nil]
/-- .. as the document has it. -/
def rc (set : Nat) (x : Au) : Au :=
  let y0 : Au := if has set 16 then (if has set 512 then { x with c := x.mt } else { x with c := x.mc }) else x
  let y1 : Au := if has set 32 then { y0 with c := 0, l := x.r } else y0
  if has set 576 then { y1 with c := y1.c - 1, l := x.r } else y1
theorem rc_acts (set : Nat) (x : Au) (h : has set 576 = (has set 64 || has set 512)) (h2 : (has set 64 && has set 512) = false) : rc set x = acts set x := by
  rw [acts_is]
  unfold rc eff
  rw [h]
  cases has set 16 <;> cases has set 32 <;> cases h6 : has set 64 <;> cases h9 : has set 512 <;> simp_all
def fin (n : Nat) (x : Au) : Au := { x with s := n, l := if timed n then x.l else 0 }
/-- An event occurs. -/
def come (x : Au) (e : Nat) : Au := if nE x.s e = 0 then fin (nN x.s e) (acts (nA x.s e) x) else x

/-! ### what the table has -/
def tabOk (e s : Nat) : Bool :=
  let x := at_ e s
  !x.c || (decide (x.n < 10) && decide (x.a < 65536) && (has x.a 576 == (has x.a 64 || has x.a 512)) && !(has x.a 64 && has x.a 512) && (!timed x.n || timed s || has x.a 32 || has x.a 64 || has x.a 512))
theorem tab_ok : ∀ e, e < 16 → ∀ s, s < 10 → tabOk e s = true := by decide +kernel
def timOk (s : Nat) : Bool :=
  !timed s || ((at_ 4 s).c && timed (at_ 4 s).n && (decide ((at_ 4 s).a = 64) || decide ((at_ 4 s).a = 512)) && (at_ 5 s).c && !timed (at_ 5 s).n && decide ((at_ 5 s).a = 8))
theorem tim_ok : ∀ s, s < 10 → timOk s = true := by decide +kernel
theorem next_of {s e : Nat} (hs : s < 10) (he : e < 16) : nE s e = (if (at_ e s).c then 0 else 120) ∧ nA s e = (if (at_ e s).c then (at_ e s).a else 0) ∧ nN s e = (if (at_ e s).c then (at_ e s).n else 0) := by
  unfold nE nA nN
  have h : ¬ (10 ≤ s ∨ 16 ≤ e) := by omega
  simp only [if_neg h, and_self]
theorem nE_big {s e : Nat} (he : 16 ≤ e) : nE s e = 2 ∧ nA s e = 0 ∧ nN s e = 0 := by
  unfold nE nA nN
  have h : 10 ≤ s ∨ 16 ≤ e := .inr he
  simp only [if_pos h, and_self]
theorem tab_spec {s e : Nat} (hs : s < 10) (h0 : nE s e = 0) : nN s e < 10 ∧ nA s e < 65536 ∧ has (nA s e) 576 = (has (nA s e) 64 || has (nA s e) 512) ∧ (has (nA s e) 64 && has (nA s e) 512) = false ∧ (!timed (nN s e) || timed s || has (nA s e) 32 || has (nA s e) 64 || has (nA s e) 512) = true := by
  by_cases he : e < 16
  · have h1 := tab_ok e he s hs
    obtain ⟨h2, h3, h4⟩ := next_of hs he
    cases hc : (at_ e s).c
    · rw [h2, hc] at h0; cases h0
    · rw [h3, h4, hc]
      unfold tabOk at h1
      simp only [hc, Bool.not_true, Bool.false_or, Bool.and_eq_true, decide_eq_true_eq, beq_iff_eq, Bool.not_eq_true'] at h1
      obtain ⟨⟨⟨⟨h5, h6⟩, h7⟩, h8⟩, h9⟩ := h1
      exact ⟨h5, h6, h7, h8, h9⟩
  · rw [(nE_big (by omega)).1] at h0; cases h0
theorem nA_lt (s e : Nat) (hs : s < 10) : nA s e < 65536 := by
  by_cases h0 : nE s e = 0
  · exact (tab_spec hs h0).2.1
  · by_cases he : e < 16
    · obtain ⟨h2, h3, h4⟩ := next_of hs he
      cases hc : (at_ e s).c
      · rw [h3, hc]; exact Nat.zero_lt_succ _
      · rw [h2, hc] at h0; exact absurd rfl h0
    · rw [(nE_big (by omega)).2.1]; exact Nat.zero_lt_succ _
theorem nA_no {s e : Nat} (hs : s < 10) (h0 : nE s e ≠ 0) : nA s e = 0 := by
  by_cases he : e < 16
  · obtain ⟨h2, h3, h4⟩ := next_of hs he
    cases hc : (at_ e s).c
    · rw [h3, hc]; rfl
    · rw [h2, hc] at h0; exact absurd rfl h0
  · exact (nE_big (by omega)).2.1
theorem tim_spec {s : Nat} (hs : s < 10) (ht : timed s = true) : nE s 4 = 0 ∧ timed (nN s 4) = true ∧ (nA s 4 = 64 ∨ nA s 4 = 512) ∧ nE s 5 = 0 ∧ timed (nN s 5) = false ∧ nA s 5 = 8 := by
  have h1 := tim_ok s hs
  obtain ⟨h2, h3, h4⟩ := next_of (e := 4) hs (by decide)
  obtain ⟨h5, h6, h7⟩ := next_of (e := 5) hs (by decide)
  unfold timOk at h1
  simp only [ht, Bool.not_true, Bool.false_or, Bool.and_eq_true, Bool.or_eq_true, decide_eq_true_eq, Bool.not_eq_true'] at h1
  obtain ⟨⟨⟨⟨⟨a1, a2⟩, a3⟩, a4⟩, a5⟩, a6⟩ := h1
  rw [h2, h3, h4, h5, h6, h7, a1, a4]
  exact ⟨rfl, a2, a3, rfl, a5, a6⟩

/-! ### what holds of an automaton -/
structure Inv (x : Au) : Prop where
  r1 : 1 ≤ x.r
  r2 : x.r ≤ 1000
  m1 : 1 ≤ x.mc
  m2 : x.mc ≤ 20
  t1 : 1 ≤ x.mt
  t2 : x.mt ≤ 20
  s : x.s < 10
  c : x.c ≤ max x.mc x.mt
  l : x.l ≤ x.r
  t : timed x.s = decide (0 < x.l)
/-- .. of its conf. -/
def Same (x y : Au) : Prop := y.r = x.r ∧ y.mc = x.mc ∧ y.mt = x.mt
theorem Same.refl (x : Au) : Same x x := ⟨rfl, rfl, rfl⟩
theorem Same.trans {x y z : Au} (h : Same x y) (k : Same y z) : Same x z := ⟨k.1.trans h.1, k.2.1.trans h.2.1, k.2.2.trans h.2.2⟩
theorem eff_same (set a : Nat) (x : Au) : Same x (eff set a x) := by
  unfold eff
  split <;> (try split) <;> (try split) <;> exact ⟨rfl, rfl, rfl⟩
theorem eff_s (set a : Nat) (x : Au) : (eff set a x).s = x.s := by
  unfold eff
  split <;> (try split) <;> (try split) <;> rfl
theorem actsL_same (set : Nat) : ∀ (l : List Nat) (x : Au), Same x (actsL set l x)
  | [], x => .refl x
  | a :: l, x => (eff_same set a x).trans (actsL_same set l _)
theorem eff_bounds (set a : Nat) (x : Au) (hc : x.c ≤ max x.mc x.mt) (hl : x.l ≤ x.r) : (eff set a x).c ≤ max x.mc x.mt ∧ (eff set a x).l ≤ x.r := by
  unfold eff
  split
  · split <;> exact ⟨by simp only []; omega, hl⟩
  · split
    · exact ⟨by simp, Nat.le_refl _⟩
    · split
      · exact ⟨by simp only []; omega, Nat.le_refl _⟩
      · exact ⟨hc, hl⟩
theorem actsL_bounds (set : Nat) : ∀ (l : List Nat) (x : Au), x.c ≤ max x.mc x.mt → x.l ≤ x.r → (actsL set l x).c ≤ max x.mc x.mt ∧ (actsL set l x).l ≤ x.r
  | [], x, hc, hl => ⟨hc, hl⟩
  | a :: l, x, hc, hl => by
    have h := eff_bounds set a x hc hl
    obtain ⟨e1, e2, e3⟩ := eff_same set a x
    have h2 := actsL_bounds set l (eff set a x) (by rw [e2, e3]; exact h.1) (by rw [e1]; exact h.2)
    rw [e1, e2, e3] at h2
    exact h2
theorem acts_pos (set : Nat) (x : Au) (hr : 1 ≤ x.r) (h : (decide (0 < x.l) || has set 32 || has set 64 || has set 512) = true) : 0 < (acts set x).l := by
  rw [acts_is]
  unfold eff
  cases has set 16 <;> cases h5 : has set 32 <;> cases h6 : has set 64 <;> cases h9 : has set 512 <;> simp_all <;> omega
theorem come_same (x : Au) (e : Nat) : Same x (come x e) := by
  unfold come
  split
  · exact actsL_same _ _ x
  · exact .refl x
theorem come_inv {x : Au} (h : Inv x) (e : Nat) : Inv (come x e) := by
  unfold come
  split
  · next h0 =>
    obtain ⟨f1, _, _, _, f5⟩ := tab_spec h.s h0
    obtain ⟨e1, e2, e3⟩ : Same x (acts (nA x.s e) x) := actsL_same _ _ x
    obtain ⟨b1, b2⟩ : (acts (nA x.s e) x).c ≤ max x.mc x.mt ∧ (acts (nA x.s e) x).l ≤ x.r := actsL_bounds _ _ x h.c h.l
    have hp : timed (nN x.s e) = true → 0 < (acts (nA x.s e) x).l := fun ht => acts_pos _ x h.r1 (by rw [ht, h.t] at f5; simpa using f5)
    generalize acts (nA x.s e) x = y at *
    generalize nN x.s e = n at *
    obtain ⟨yr, ymc, ymt, ys, yc, yl⟩ := y
    simp only at e1 e2 e3 b1 b2 hp
    subst e1 e2 e3
    refine ⟨h.r1, h.r2, h.m1, h.m2, h.t1, h.t2, f1, b1, ?_, ?_⟩
    · unfold fin
      show (if timed n then yl else 0) ≤ x.r
      split
      · exact b2
      · exact Nat.zero_le _
    · unfold fin
      show timed n = decide (0 < if timed n then yl else 0)
      cases ht : timed n
      · rfl
      · rw [if_pos rfl, decide_eq_true (hp ht)]
  · exact h
/-- A tick. -/
def tev (x : Au) : Nat := if x.c = 0 then 5 else 4
def tk (x : Au) : Au := if x.l = 0 then x else if x.l = 1 then come { x with l := x.r } (tev x) else { x with l := x.l - 1 }
def tkS (x : Au) : Nat := if x.l = 1 then nA x.s (tev x) else 0
theorem tk_same (x : Au) : Same x (tk x) := by
  unfold tk
  split
  · exact .refl x
  · split
    · exact come_same { x with l := x.r } _
    · exact ⟨rfl, rfl, rfl⟩
theorem wound {x : Au} (h : Inv x) (h1 : x.l = 1) : Inv { x with l := x.r } :=
  ⟨h.r1, h.r2, h.m1, h.m2, h.t1, h.t2, h.s, h.c, Nat.le_refl _, by
    show timed x.s = decide (0 < x.r)
    rw [h.t, decide_eq_true (show 0 < x.r from h.r1), decide_eq_true (show 0 < x.l by omega)]⟩
theorem tk_inv {x : Au} (h : Inv x) : Inv (tk x) := by
  unfold tk
  split
  · exact h
  · split
    · next h1 => exact come_inv (wound h h1) _
    · next h0 h1 =>
      exact ⟨h.r1, h.r2, h.m1, h.m2, h.t1, h.t2, h.s, h.c, Nat.le_trans (Nat.sub_le _ _) h.l, by
        show timed x.s = decide (0 < x.l - 1)
        rw [h.t, decide_eq_true (show 0 < x.l by omega), decide_eq_true (show 0 < x.l - 1 by omega)]⟩
theorem tim_of {x : Au} (h : Inv x) (h1 : x.l = 1) : timed x.s = true := by rw [h.t, decide_eq_true (by omega)]
/-- What an expiry comes to. -/
theorem expire {x : Au} (h : Inv x) (h1 : x.l = 1) (q : Nat) :
    nE x.s (tev x) = 0 ∧ (x.c ≠ 0 → (tkS x = 64 ∨ tkS x = 512) ∧ come { x with l := q } (tev x) = { x with s := nN x.s 4, c := x.c - 1, l := x.r }) ∧
    (x.c = 0 → tkS x = 8 ∧ come { x with l := q } (tev x) = { x with s := nN x.s 5, l := 0 }) := by
  obtain ⟨f1, f2, f3, f4, f5, f6⟩ := tim_spec h.s (tim_of h h1)
  unfold tkS
  rw [if_pos h1]
  by_cases hc : x.c = 0
  · have ht : tev x = 5 := if_pos hc
    rw [ht]
    refine ⟨f4, fun hn => absurd hc hn, fun _ => ⟨f6, ?_⟩⟩
    unfold come
    show (if nE x.s 5 = 0 then fin (nN x.s 5) (acts (nA x.s 5) { x with l := q }) else _) = _
    rw [if_pos f4, f6, acts_is]
    unfold fin
    rw [f5]
    simp only [show has 8 16 = false by decide, show has 8 32 = false by decide, show has 8 64 = false by decide, show has 8 512 = false by decide]
    rfl
  · have ht : tev x = 4 := if_neg hc
    rw [ht]
    refine ⟨f1, fun _ => ⟨f3, ?_⟩, fun h0 => absurd h0 hc⟩
    unfold come
    show (if nE x.s 4 = 0 then fin (nN x.s 4) (acts (nA x.s 4) { x with l := q }) else _) = _
    rw [if_pos f1, acts_is]
    unfold fin
    rw [f2]
    rcases f3 with e | e
    · rw [e]
      simp only [show has 64 16 = false by decide, show has 64 32 = false by decide, show has 64 64 = true by decide, show has 64 512 = false by decide]
      rfl
    · rw [e]
      simp only [show has 512 16 = false by decide, show has 512 32 = false by decide, show has 512 64 = false by decide, show has 512 512 = true by decide]
      rfl
theorem rtick {x : Au} (h : Inv x) (h1 : x.l = 1) : come { x with l := 0 } (tev x) = tk x := by
  unfold tk
  rw [if_neg (by omega), if_pos h1]
  obtain ⟨_, a, b⟩ := expire h h1 0
  obtain ⟨_, c, d⟩ := expire h h1 x.r
  by_cases hc : x.c = 0
  · rw [(b hc).2, (d hc).2]
  · rw [(a hc).2, (c hc).2]
/-- How many ticks there are left. -/
def bud (x : Au) : Nat := if x.l = 0 then 0 else x.l + x.r * x.c
def snd (x : Au) : Nat := if has (tkS x) 576 then 1 else 0
theorem tk_less {x : Au} (h : Inv x) (h0 : x.l ≠ 0) : bud (tk x) + 1 ≤ bud x ∧ snd x + (tk x).c ≤ x.c := by
  by_cases h1 : x.l = 1
  · obtain ⟨_, c, d⟩ := expire h h1 x.r
    have ht : tk x = come { x with l := x.r } (tev x) := by unfold tk; rw [if_neg h0, if_pos h1]
    by_cases hc : x.c = 0
    · obtain ⟨e1, e2⟩ := d hc
      rw [ht, e2]
      unfold snd bud
      rw [e1]
      simp [hc, h1, show has 8 576 = false by decide]
    · obtain ⟨e1, e2⟩ := c hc
      rw [ht, e2]
      have hs : snd x = 1 := by
        unfold snd
        rcases e1 with e | e <;> rw [e] <;> rfl
      rw [hs]
      unfold bud
      have hr := h.r1
      rw [if_neg h0, if_neg (show ¬ x.r = 0 by omega)]
      show x.r + x.r * (x.c - 1) + 1 ≤ x.l + x.r * x.c ∧ 1 + (x.c - 1) ≤ x.c
      have : x.r * x.c = x.r * (x.c - 1) + x.r := by
        conv => lhs; rw [show x.c = (x.c - 1) + 1 by omega]
        exact Nat.mul_succ _ _
      omega
  · have ht : tk x = { x with l := x.l - 1 } := by unfold tk; rw [if_neg h0, if_neg h1]
    have hs : snd x = 0 := by unfold snd tkS; rw [if_neg h1]; rfl
    rw [ht, hs]
    unfold bud
    rw [if_neg h0, if_neg (show ¬ x.l - 1 = 0 by omega)]
    show x.l - 1 + x.r * x.c + 1 ≤ x.l + x.r * x.c ∧ 0 + x.c ≤ x.c
    omega
theorem bud_le {x : Au} (h : Inv x) : bud x ≤ x.r * (max x.mc x.mt + 2) := by
  unfold bud
  have h1 := Nat.mul_le_mul_left x.r h.c
  have h2 : x.r * (max x.mc x.mt + 2) = x.r * max x.mc x.mt + x.r * 2 := Nat.mul_add _ _ _
  have h3 := h.l
  split <;> omega
theorem tkS_none {x : Au} (h : x.l = 0) : tkS x = 0 ∧ tk x = x := by
  unfold tkS tk
  rw [if_neg (by omega), if_pos h]
  exact ⟨rfl, rfl⟩
theorem tkS_lt {x : Au} (h : Inv x) : tkS x < 65536 := by
  unfold tkS
  split
  · exact nA_lt _ _ h.s
  · decide
end Go.Proofs.Ytkabjdejljdbiaa.Aut
