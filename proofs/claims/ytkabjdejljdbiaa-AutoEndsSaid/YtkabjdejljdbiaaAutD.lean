/- Event, Tick, New and Copy of the program. -/
import Derived.Test.YtkabjdejljdbiaaAutC
namespace Go.Proofs.Ytkabjdejljdbiaa.Aut
open Go.RowKit Go.Proofs.Ytkabjdejljdbiaa.Oct Go.Proofs.Ytkabjdejljdbiaa.Row Go.Proofs.Ytkabjdejljdbiaa.Mem Go.Proofs.Ytkabjdejljdbiaa.Fsm

/-! ### Event -/
def evA (x : Au) (v : Nat) : Nat := if v = 4 ∨ v = 5 then 0 else nA x.s v
def evE (x : Au) (v : Nat) : Nat := if v = 4 ∨ v = 5 then 2 else nE x.s v
def evX (x : Au) (v : Nat) : Au := if v = 4 ∨ v = 5 then x else come x v
def EvQ (x : Au) (v g : Nat) (w : World) (o : Ending) (w' : World) : Prop := o = .returned (.tuple #[.int .u16 (evA x v), .int .i64 (evE x v)]) ∧ Aut w' g (evX x v) ∧ Moves (fun k => k = g) w w'
set_option maxHeartbeats 2000000 in
theorem event_any (x : Au) (g v : Nat) (w : World) (h : Aut w g x) (hi : Inv x) : Calls Try.prog 8 #[.pointer (some ⟨g, 0, none⟩), .int .u8 v] w (EvQ x v g w) := by
  unfold EvQ evA evE evX
  have H := Lib.hid h
  by_cases hv : v = 4 ∨ v = 5
  · simp only [if_pos hv]
    rcases hv with rfl | rfl
    all_goals
      clear h hi
      go_enter Try.func8, Try.ntmps8
      go_wp2
      go_ret2
      exact ⟨rfl, H.out, Moves.refl _ _⟩
  · simp only [if_neg hv]
    have HO := Lib.hid (occur_any x g v w h hi)
    have h4 : ((v : Int) == 4) = false := by rw [beq_eq_false_iff_ne]; omega
    have h5 : ((v : Int) == 5) = false := by rw [beq_eq_false_iff_ne]; omega
    clear h hi hv
    go_enter Try.func8, Try.ntmps8
    go_wp2_with fail
    refine HO.out.mono ?_
    rintro o w1 ⟨rfl, ha, hm⟩
    have HA := Lib.hid ha
    have HM := Lib.hid hm
    clear ha hm HO
    go_wp2
    go_ret2
    exact ⟨rfl, HA.out, HM.out⟩

/-! ### Tick -/
def TkQ (x : Au) (g : Nat) (w : World) (o : Ending) (w' : World) : Prop := o = .returned (.tuple #[.int .u16 (tkS x), .bool (decide (x.l = 1))]) ∧ Aut w' g (tk x) ∧ Moves (fun k => k = g) w w'
set_option maxHeartbeats 2000000 in
theorem tick_any (x : Au) (g : Nat) (w : World) (h : Aut w g x) (hi : Inv x) : Calls Try.prog 9 #[.pointer (some ⟨g, 0, none⟩)] w (TkQ x g w) := by
  have H := Lib.hid h
  have c0 : w.cell? ⟨g, 0, none⟩ = some (.int .i64 x.r) := h.c 0
  have c5 : w.cell? ⟨g, 5, none⟩ = some (.int .i64 x.l) := h.c 5
  have f5 := h.f 5
  unfold TkQ tkS
  by_cases h0 : x.l = 0
  · have HK : Hid (tk x = x) := (tkS_none h0).2
    rw [HK.out, decide_eq_false (by omega), if_neg (by omega)]
    rw [h0] at c5
    clear h hi h0 HK
    go_enter Try.func9, Try.ntmps9
    go_wp2
    go_ret2
    exact ⟨rfl, H.out, Moves.refl _ _⟩
  · by_cases h1 : x.l = 1
    · have HK : Hid (tk x = come { x with l := x.r } (tev x)) := by
        show _ = _
        unfold tk
        rw [if_neg h0, if_pos h1]
      rw [HK.out, decide_eq_true h1, if_pos h1]
      have HW := Lib.hid (wound hi h1)
      rw [h1] at c5
      have H2 := Lib.hid ((H.out.setL 0).setL x.r)
      have M2 : Hid (Moves (fun k => k = g) w ((w.setCell ⟨g, 5, none⟩ (.int .i64 0)).setCell ⟨g, 5, none⟩ (.int .i64 x.r))) := setS_moves (set_moves w g 5 (.int .i64 0)) 5 (.int .i64 x.r)
      clear h hi h0 h1 HK H
      go_enter Try.func9, Try.ntmps9
      go_wp2_with fail
      refine (expiry_any g _ _ H2.out).mono ?_
      rintro o w1 ⟨rfl, rfl⟩
      go_wp2_with fail
      refine (occur_any _ g _ _ H2.out HW.out).mono ?_
      rintro o w1 ⟨rfl, ha, hm⟩
      have HA := Lib.hid ha
      have HM := Lib.hid (M2.out.trans hm fun _ _ e => e)
      clear ha hm H2 M2 HW c0 c5 f5
      go_wp2
      go_ret2
      exact ⟨rfl, HA.out, HM.out⟩
    · have HK : Hid (tk x = { x with l := x.l - 1 }) := by
        show _ = _
        unfold tk
        rw [if_neg h0, if_neg h1]
      rw [HK.out, decide_eq_false h1, if_neg h1]
      have e : (x.l : Int) = ((x.l - 1 : Nat) : Int) + 1 := by omega
      have hp : (0 : Int) < ((x.l - 1 : Nat) : Int) := by omega
      have hb : ((x.l - 1 : Nat) : Int) ≤ 1000 := by have := hi.l; have := hi.r2; omega
      rw [e] at c5
      have H2 := Lib.hid (H.out.setL (x.l - 1))
      have M2 : Hid (Moves (fun k => k = g) w (w.setCell ⟨g, 5, none⟩ (.int .i64 (x.l - 1 : Nat)))) := set_moves w g 5 _
      generalize x.l - 1 = q at *
      have e1 : (q : Int) + 1 - 1 = (q : Int) := by omega
      have e2 : ((q : Int) + 1 == 0) = false := by rw [beq_eq_false_iff_ne]; omega
      clear h hi h0 h1 HK H e
      go_enter Try.func9, Try.ntmps9
      go_wp2
      go_ret2
      exact ⟨rfl, H2.out, M2.out⟩

/-! ### Copy -/
set_option maxHeartbeats 2000000 in
theorem copy_any (x : Au) (g : Nat) (w : World) (h : Aut w g x) : Calls Try.prog 13 #[.pointer (some ⟨g, 0, none⟩)] w fun o w' => ∃ b, o = .returned (.pointer (some ⟨b, 0, none⟩)) ∧ w.heap.size ≤ b ∧ Aut w' b x ∧ Below w.heap.size w w' := by
  have H := Lib.hid (blk_new w (av x) 52)
  have HB : Hid (Below w.heap.size w (w.alloc (.cells (av x).toArray 52))) := (Below.refl w.heap.size w).alloc (Nat.le_refl _) _
  have c0 : w.cell? ⟨g, 0, none⟩ = some (.int .i64 x.r) := h.c 0
  have c1 : w.cell? ⟨g, 1, none⟩ = some (.int .i64 x.mc) := h.c 1
  have c2 : w.cell? ⟨g, 2, none⟩ = some (.int .i64 x.mt) := h.c 2
  have c3 : w.cell? ⟨g, 3, none⟩ = some (.int .u8 x.s) := h.c 3
  have c4 : w.cell? ⟨g, 4, none⟩ = some (.int .i64 x.c) := h.c 4
  have c5 : w.cell? ⟨g, 5, none⟩ = some (.int .i64 x.l) := h.c 5
  clear h
  go_enter Try.func13, Try.ntmps13
  go_wp2
  go_ret
  exact ⟨_, rfl, Nat.le_refl _, H.out, HB.out⟩

/-! ### New -/
theorem within_any (n m : Int) (w : World) : Calls Try.prog 23 #[.int .i64 n, .int .i64 m] w fun o w' => o = .returned (.bool (decide (1 ≤ n) && decide (n ≤ m))) ∧ w = w' := by
  by_cases h1 : 1 ≤ n
  · have h2 : decide (1 ≤ n) = true := decide_eq_true h1
    rw [h2]
    go_enter Try.func23, Try.ntmps23
    go_wp2
    go_ret
    exact ⟨by simp, rfl⟩
  · have h2 : decide (1 ≤ n) = false := decide_eq_false h1
    have h3 : n < 1 := by omega
    rw [h2]
    clear h1
    go_enter Try.func23, Try.ntmps23
    go_wp2
    go_ret
    exact ⟨by simp, rfl⟩
end Go.Proofs.Ytkabjdejljdbiaa.Aut
