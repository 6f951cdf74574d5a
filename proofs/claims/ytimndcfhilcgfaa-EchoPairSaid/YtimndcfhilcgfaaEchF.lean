/- What is sent by what is done; Tick. -/
import Derived.Test.YtimndcfhilcgfaaEchE
namespace Go.Proofs.Ytimndcfhilcgfaa.Ech
open Go.RowKit Go.Proofs.Ytimndcfhilcgfaa.Oct Go.Proofs.Ytimndcfhilcgfaa.Row Go.Proofs.Ytimndcfhilcgfaa.Mem

/-- What Tick and Packet answer: what is sent, in a row of the call's own; an error. -/
def OutQ (g : Nat) (x' : Ec) (l : List Pk) (E : Nat) (w : World) (e : Ending) (w' : World) : Prop :=
  ∃ A c, e = .returned (.tuple #[.slice A l.length c, .int .i64 E]) ∧ RowP w' w.heap.size A c l ∧ EAt w' g x' ∧ Moves (fun k => k = g) w w'
theorem outq_none {g : Nat} {x' : Ec} {E : Nat} {w w' : World} (h : EAt w' g x') (hm : Moves (fun k => k = g) w w') : OutQ g x' [] E w (.returned (.tuple #[.slice none 0 0, .int .i64 E])) w' :=
  ⟨none, 0, rfl, World.ownsRow_nil _ _ _ _, h, hm⟩
/-- The boxes of 'sending'. -/
theorem box_s (w : World) (g : Nat) : ∃ W, (w.alloc (.cells #[ptr g] 28)).alloc (.cells #[.slice none 0 0] 29) = W ∧
    Hid (Eb W w.heap.size g ∧ Out W (w.heap.size + 1) none [] 0 ∧ Below w.heap.size w W) := by
  have s1 : (w.alloc (.cells #[ptr g] 28)).heap.size = w.heap.size + 1 := World.size_alloc _ _
  have b1 := blk_new w [ptr g] 28
  have b2 := blk_new (w.alloc (.cells #[ptr g] 28)) [.slice none 0 0] 29
  rw [s1] at b2
  exact ⟨_, rfl, b1.alloc _, b2, ((Below.refl _ w).alloc (Nat.le_refl _) _).alloc (by rw [s1]; omega) _⟩
theorem outq_of {g ob : Nat} {x' : Ec} {l : List Pk} {E : Nat} {w W w1 : World} {A : Option Addr} {c : Nat} (hb : Below w.heap.size w W) (ho : w.heap.size ≤ ob) (hr : RowP w1 W.heap.size A c l) (h : EAt w1 g x') (hm : Moves (fun k => k = g ∨ k = ob) W w1) :
    OutQ g x' l E w (.returned (.tuple #[.slice A l.length c, .int .i64 E])) w1 :=
  ⟨A, c, rfl, own_mono hr hb.size, h, (Moves.of_below hb).trans hm fun j hj e => by rcases e with e | e; exact e; omega⟩
set_option maxHeartbeats 1000000 in
set_option maxRecDepth 100000 in
theorem sending_ask (g : Nat) (x : Ec) (w : World) (h : EAt w g x) (hi : Inv x) :
    Calls Try.prog 21 #[ptr g, .func (.func 22) #[ptr g] #[]] w (OutQ g (ask x x.now) (askL x x.now) 0 w) := by
  obtain ⟨W, hW, HW⟩ := box_s w g
  have HS : Hid (Calls Try.prog 22 #[.pointer (some ⟨g, 0, none⟩), .func (.func 28) #[] #[.pointer (some ⟨w.heap.size + 1, 0, none⟩), .pointer (some ⟨w.heap.size, 0, none⟩)]] W (DoQ g (w.heap.size + 1) (ask x x.now) (askL x x.now) 0 W)) :=
    ask_any g (w.heap.size + 1) w.heap.size x W (h.callee (HW.out.2.2)) hi HW.out.2.1 HW.out.1
  generalize hl : askL x x.now = l at *
  generalize hx : ask x x.now = y at *
  clear h hi hl hx
  unfold ptr at *
  go_enter Try.func21, Try.ntmps21
  go_wp2_with fail
  refine HS.out.mono ?_
  rintro e w1 ⟨rfl, ⟨A, c, ho, hr⟩, h1, hm⟩
  have c0 : w1.cell? ⟨w.heap.size + 1, 0, none⟩ = some (.slice A l.length c) := Blk.at_ ho 0
  have HQ := Lib.hid (outq_of (E := 0) HW.out.2.2 (Nat.le_succ _) hr h1 hm)
  clear ho hr h1 hm HS hW
  generalize l.length = n at *
  go_wp2
  go_ret2
  exact HQ.out
set_option maxHeartbeats 1000000 in
set_option maxRecDepth 100000 in
theorem tick_any (g : Nat) (x : Ec) (t : Int) (w : World) (h : EAt w g x) (hi : Inv x) :
    Calls Try.prog 8 #[ptr g, .int .i64 t] w (OutQ g (tk x t) (tL x t) (tE x t) w) := by
  have c1 : w.cell? ⟨g, 1, none⟩ = some (.int .i64 x.now) := h.c 1
  have f1 : w.frozen? ⟨g, 1, none⟩ = false := h.f 1
  have H := Lib.hid h
  unfold tk tL
  by_cases h1 : t < x.now
  · have e1 : tE x t = 2 := by unfold tE; rw [if_pos (.inl h1)]
    rw [e1, if_neg (by decide), if_neg (by decide)]
    have d1 := decide_eq_true h1
    clear h hi h1 e1
    unfold ptr
    go_enter Try.func8, Try.ntmps8
    go_wp2
    go_ret2
    exact outq_none H.out (Moves.refl _ w)
  · have d1 := decide_eq_false h1
    by_cases h2 : mx < t
    · have e1 : tE x t = 2 := by unfold tE; rw [if_pos (.inr h2)]
      rw [e1, if_neg (by decide), if_neg (by decide)]
      have d2 : decide ((1152921504606846976 : Int) < t) = true := decide_eq_true h2
      clear h hi h1 e1 h2
      unfold ptr
      go_enter Try.func8, Try.ntmps8
      go_wp2
      go_ret2
      exact outq_none H.out (Moves.refl _ w)
    · have e1 : tE x t = 0 := by unfold tE; rw [if_neg (by rintro (e | e); exact h1 e; exact h2 e)]
      rw [e1, if_pos rfl, if_pos rfl]
      have d2 : decide ((1152921504606846976 : Int) < t) = false := decide_eq_false h2
      have HV : Hid (Inv { x with now := t }) := ⟨hi.ev, hi.mo1, hi.mo2, hi.mg, hi.si0, Int.le_trans hi.si1 (Int.not_lt.1 h1), Int.not_lt.1 h2, hi.mi, hi.mn⟩
      have HS : Hid (∀ W, EAt W g { x with now := t } → Calls Try.prog 21 #[.pointer (some ⟨g, 0, none⟩), .func (.func 22) #[.pointer (some ⟨g, 0, none⟩)] #[]] W (OutQ g (ask x t) (askL x t) 0 W)) := fun W h => sending_ask g { x with now := t } W h HV.out
      clear h hi h1 e1 h2
      unfold ptr
      go_enter Try.func8, Try.ntmps8
      go_wp2_with fail
      refine (HS.out _ (H.out.setNow t)).mono ?_
      rintro e w1 ⟨A, c, rfl, hr, hx, hm⟩
      have HQ : Hid (OutQ g (ask x t) (askL x t) 0 w (.returned (.tuple #[.slice A (askL x t).length c, .int .i64 (0 : Nat)])) w1) := ⟨A, c, rfl, own_mono hr (set1_moves w g 1 (.int .i64 t)).size, hx, (set1_moves w g 1 (.int .i64 t)).trans hm fun _ _ e => e⟩
      clear hr hx hm HS
      generalize (askL x t) = l at *
      generalize hn : l.length = n at *
      go_wp2
      go_ret2
      exact HQ.out
end Go.Proofs.Ytimndcfhilcgfaa.Ech
