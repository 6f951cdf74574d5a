/- What the laws of layer 13 share. -/
import Derived.Test.YtkabjdejljdbiaaAutH
import Derived.OpenShut
import Derived.Deep.QuietTactic
import Derived.BigQuiet
namespace Go.Proofs.Ytkabjdejljdbiaa.Aut
open Go.RowKit Go.Proofs.Ytkabjdejljdbiaa.Oct Go.Proofs.Ytkabjdejljdbiaa.Row Go.Proofs.Ytkabjdejljdbiaa.Mem Go.Proofs.Ytkabjdejljdbiaa.Fsm

theorem long_yes (A : Option Addr) (n c : Nat) (w : World) (h : 3000 < n) : Calls Try.prog 6 #[.slice A n c] w fun o w' => o = .returned (.bool true) ∧ w = w' := by
  have h1 := long_any A n c w
  rw [decide_eq_true h] at h1
  exact h1
theorem long_no (A : Option Addr) (n c : Nat) (w : World) (h : ¬ 3000 < n) : Calls Try.prog 6 #[.slice A n c] w fun o w' => o = .returned (.bool false) ∧ w = w' := by
  have h1 := long_any A n c w
  rw [decide_eq_false h] at h1
  exact h1
theorem may_nat {a b d : Int} (h : may a b d = true) : ∃ r mc mt : Nat, a = r ∧ b = mc ∧ d = mt := by
  simp only [may, ok, Bool.and_eq_true, decide_eq_true_eq] at h
  exact ⟨a.toNat, b.toNat, d.toNat, by omega, by omega, by omega⟩
theorem Al.low {w W wr : World} {g : Nat} {x : Au} (h : Al W wr g x) (hb : Below w.heap.size w W) : Below w.heap.size w wr := hb.trans (h.2.1.mono hb.size)
theorem evX_same (x : Au) (v : Nat) : Same x (evX x v) := by
  unfold evX
  split
  · exact .refl x
  · exact come_same x v
/-- The bound of P13.4. -/
theorem most_of {r mc mt : Nat} (h : Inv ⟨r, mc, mt, 0, 0, 0⟩) : (mc ≤ 20 ∧ mt ≤ 20) ∧ (mc < mt → (r : Int) * ((mt : Int) + 2) ≤ 22000) ∧ (¬ mc < mt → (r : Int) * ((mc : Int) + 2) ≤ 22000) := by
  have h1 : r ≤ 1000 := h.r2
  have h2 : mc ≤ 20 := h.m2
  have h3 : mt ≤ 20 := h.t2
  have key : ∀ k : Nat, k ≤ 20 → (r : Int) * ((k : Int) + 2) ≤ 22000 := fun k hk => by
    have := Nat.mul_le_mul h1 (show k + 2 ≤ 22 by omega)
    have e : (r : Int) * ((k : Int) + 2) = ((r * (k + 2) : Nat) : Int) := by push_cast; rfl
    rw [e]
    omega
  exact ⟨⟨h2, h3⟩, fun _ => key mt h3, fun _ => key mc h2⟩
theorem ticks_of {r mc mt M g : Nat} {x : Au} (hi : Inv x) (hs : Same ⟨r, mc, mt, 0, 0, 0⟩ x) (hM : max mc mt = M) (w' : World) (h : Aut w' g x) :
    Calls Try.prog 18 #[.pointer (some ⟨g, 0, none⟩), .int .i64 ((r : Int) * ((M : Int) + 2))] w' (TicksQ x g w') := by
  obtain ⟨e1, e2, e3⟩ := hs
  simp only at e1 e2 e3
  have h1 := bud_le hi
  rw [e1, e2, e3, hM] at h1
  have h2 : r ≤ 1000 := by have := hi.r2; omega
  have h3 : M ≤ 20 := by have := hi.m2; have := hi.t2; omega
  have h4 := Nat.mul_le_mul h2 (show M + 2 ≤ 22 by omega)
  have e : (r : Int) * ((M : Int) + 2) = ((r * (M + 2) : Nat) : Int) := by push_cast; rfl
  rw [e]
  exact ticks_any x g _ w' h hi h1 (by omega)
theorem timed_still {y : Au} (hi : Inv y) (hl : y.l = 0) (w : World) : Calls Try.prog 19 #[.int .u8 y.s] w fun o w' => o = .returned (.bool false) ∧ w = w' := by
  have h := timed_any y.s w
  rw [hi.t, hl] at h
  exact h
theorem left_still {y : Au} {g : Nat} (hl : y.l = 0) (w' : World) (h : Aut w' g y) : Calls Try.prog 12 #[.pointer (some ⟨g, 0, none⟩)] w' fun e w'' => e = .returned (.int .i64 0) ∧ w' = w'' := by
  have h1 := left_any g y w' h
  rw [hl] at h1
  exact h1
/-- What is refused, what is done. -/
theorem refused {x : Au} {v : Nat} (hs : x.s < 10) (h : nE x.s v ≠ 0 ∨ v = 4 ∨ v = 5) : evA x v = 0 ∧ evE x v ≠ 0 ∧ evX x v = x := by
  unfold evA evE evX
  by_cases hv : v = 4 ∨ v = 5
  · simp only [if_pos hv]
    exact ⟨trivial, by decide, trivial⟩
  · simp only [if_neg hv]
    have h0 : nE x.s v ≠ 0 := by omega
    exact ⟨nA_no hs h0, h0, if_neg h0⟩
theorem done {x : Au} {v : Nat} (h0 : nE x.s v = 0) (hv : ¬ (v = 4 ∨ v = 5)) : evE x v = 0 ∧ (evX x v).s = nN x.s v := by
  unfold evE evX
  simp only [if_neg hv]
  refine ⟨h0, ?_⟩
  unfold come
  rw [if_pos h0]
  rfl
theorem Aut.drewN {w : World} {g : Nat} {x : Au} (h : Aut w g x) (n : Nat) : Aut (w.drewN n) g x := h
theorem RAut.drewN {w : World} {g : Nat} {x : Au} (h : RAut w g x) (n : Nat) : RAut (w.drewN n) g x := h
theorem Al.drewN {w wr : World} {g : Nat} {x : Au} (h : Al w wr g x) (n : Nat) : Al w (wr.drewN n) g x := ⟨h.1.drewN n, h.2.1.drewN' n, h.2.2⟩
/-- What is asked while a region draws. -/
theorem state_q {w : World} {g : Nat} {x : Au} (h : Aut w g x) (n : Nat) : Calls Try.prog 10 #[.pointer (some ⟨g, 0, none⟩)] (w.drewN n) fun e w' => e = .returned (.int .u8 x.s) ∧ w' = w.drewN n :=
  (state_any g x _ (h.drewN n)).mono fun _ _ ⟨a, b⟩ => ⟨a, b.symm⟩
theorem counter_q {w : World} {g : Nat} {x : Au} (h : Aut w g x) (n : Nat) : Calls Try.prog 11 #[.pointer (some ⟨g, 0, none⟩)] (w.drewN n) fun e w' => e = .returned (.int .i64 x.c) ∧ w' = w.drewN n :=
  (counter_any g x _ (h.drewN n)).mono fun _ _ ⟨a, b⟩ => ⟨a, b.symm⟩
theorem left_q {w : World} {g : Nat} {x : Au} (h : Aut w g x) (n : Nat) : Calls Try.prog 12 #[.pointer (some ⟨g, 0, none⟩)] (w.drewN n) fun e w' => e = .returned (.int .i64 x.l) ∧ w' = w.drewN n :=
  (left_any g x _ (h.drewN n)).mono fun _ _ ⟨a, b⟩ => ⟨a, b.symm⟩
theorem timed_q {x : Au} (hi : Inv x) (w : World) (n : Nat) : Calls Try.prog 19 #[.int .u8 x.s] (w.drewN n) fun e w' => e = .returned (.bool (decide ((0 : Int) < (x.l : Int)))) ∧ w' = w.drewN n :=
  (timed_any x.s _).mono fun _ _ ⟨a, b⟩ => ⟨by rw [a, hi.t]; congr 1; simp, b.symm⟩
/-- The program's automaton beside the document's. -/
structure Two (W wr : World) (g R : Nat) (x : Au) : Prop where
  a : Aut wr g x
  r : RAut wr R x
  b : Below W.heap.size W wr
  g : W.heap.size ≤ g
  R : W.heap.size ≤ R
  i : Inv x
theorem Two.ne {W wr : World} {g R : Nat} {x : Au} (h : Two W wr g R x) : R ≠ g := by
  rintro rfl
  have h1 := h.a
  have h2 := h.r
  unfold Aut Blk at h1
  unfold RAut Blk at h2
  rw [h1] at h2
  simp at h2
theorem Two.moveA {W wr w1 : World} {g R : Nat} {x y : Au} (h : Two W wr g R x) (hm : Moves (fun k => k = g) wr w1) (ha : Aut w1 g y) : Aut w1 g y ∧ RAut w1 R x ∧ Below W.heap.size W w1 :=
  ⟨ha, h.r.moves hm h.ne, h.b.trans (hm.below h.b.size fun k e => by have := h.g; omega)⟩
theorem Two.both {W wr w1 w2 : World} {g R : Nat} {x y : Au} (h : Two W wr g R x) (h1 : Aut w1 g y ∧ RAut w1 R x ∧ Below W.heap.size W w1) (hm : Moves (fun k => k = R) w1 w2) (hr : RAut w2 R y) (hi : Inv y) : Two W w2 g R y :=
  ⟨h1.1.moves hm (fun e => h.ne e.symm), hr, h1.2.2.trans (hm.below h1.2.2.size fun k e => by have := h.R; omega), h.g, h.R, hi⟩
theorem Two.drewN {W wr : World} {g R : Nat} {x : Au} (h : Two W wr g R x) (n : Nat) : Two W (wr.drewN n) g R x := ⟨h.a.drewN n, h.r.drewN n, h.b.drewN' n, h.g, h.R, h.i⟩
theorem Two.low {w W wr : World} {g R : Nat} {x : Au} (h : Two W wr g R x) (hb : Below w.heap.size w W) : Below w.heap.size w wr := hb.trans (h.b.mono hb.size)
/-- .. whose copy goes on alone. -/
theorem Two.copy {W wr w1 : World} {g R b : Nat} {x : Au} (h : Two W wr g R x) (hb : wr.heap.size ≤ b) (ha : Aut w1 b x) (hw : Below wr.heap.size wr w1) : Two W w1 b R x ∧ Aut w1 g x ∧ b ≠ g ∧ R ≠ g ∧ W.heap.size ≤ g :=
  ⟨⟨ha, h.r.callee hw, h.b.trans (hw.mono h.b.size), Nat.le_trans h.b.size hb, h.R, h.i⟩, h.a.callee hw, by have := h.a.lt; omega, h.ne, h.g⟩
theorem Two.other {W wr w1 : World} {b R g : Nat} {x y : Au} (h : Two W wr b R x ∧ Aut wr g y ∧ b ≠ g ∧ R ≠ g ∧ W.heap.size ≤ g) {z : Au} (hm : Moves (fun k => k = g) wr w1) (ha : Aut w1 g z) : Two W w1 b R x ∧ Aut w1 g z ∧ b ≠ g ∧ R ≠ g ∧ W.heap.size ≤ g :=
  ⟨⟨h.1.a.moves hm h.2.2.1, h.1.r.moves hm h.2.2.2.1, h.1.b.trans (hm.below h.1.b.size fun k e => by have := h.2.2.2.2; omega), h.1.g, h.1.R, h.1.i⟩, ha, h.2.2.1, h.2.2.2.1, h.2.2.2.2⟩
end Go.Proofs.Ytkabjdejljdbiaa.Aut
