/- What both automata answer, told at one input; 'alive', 'long'; a conf among the arguments. -/
import Derived.Test.YtkabjdejljdbiaaAutG
import Derived.KernelRfl
import Derived.Lib.SmallJoins
namespace Go.Proofs.Ytkabjdejljdbiaa.Aut
open Go.RowKit Go.Proofs.Ytkabjdejljdbiaa.Oct Go.Proofs.Ytkabjdejljdbiaa.Row Go.Proofs.Ytkabjdejljdbiaa.Mem Go.Proofs.Ytkabjdejljdbiaa.Fsm

theorem evX_inv {x : Au} (h : Inv x) (v : Nat) : Inv (evX x v) := by
  unfold evX
  split
  · exact h
  · exact come_inv h v
theorem new_inv {r mc mt : Nat} (h : may r mc mt = true) : Inv ⟨r, mc, mt, 0, 0, 0⟩ := by
  simp only [may, ok, Bool.and_eq_true, decide_eq_true_eq] at h
  obtain ⟨⟨⟨h1, h2⟩, h3, h4⟩, h5, h6⟩ := h
  exact ⟨by show 1 ≤ r; omega, by show r ≤ 1000; omega, by show 1 ≤ mc; omega, by show mc ≤ 20; omega, by show 1 ≤ mt; omega, by show mt ≤ 20; omega, by show 0 < 10; decide, Nat.zero_le _, Nat.zero_le _, rfl⟩
/-- The automaton of the law's own call, and what is kept below. -/
def Al (w wr : World) (g : Nat) (x : Au) : Prop := Aut wr g x ∧ Below w.heap.size w wr ∧ w.heap.size ≤ g
theorem Al.moves {w wr w' : World} {g : Nat} {x y : Au} (h : Al w wr g x) (hm : Moves (fun k => k = g) wr w') (ha : Aut w' g y) : Al w w' g y :=
  ⟨ha, h.2.1.trans (hm.below h.2.1.size fun k e => by have := h.2.2; omega), h.2.2⟩
theorem Al.callee {w wr w' : World} {g : Nat} {x : Au} (h : Al w wr g x) (hb : Below wr.heap.size wr w') : Al w w' g x :=
  ⟨h.1.callee hb, h.2.1.trans (hb.mono h.2.1.size), h.2.2⟩
theorem Al.new {w w0 w' : World} {g : Nat} {x : Au} (h0 : Below w.heap.size w w0) (ha : Aut w' g x) (hg : w0.heap.size ≤ g) (hb : Below w0.heap.size w0 w') : Al w w' g x :=
  ⟨ha, h0.trans (hb.mono h0.size), Nat.le_trans h0.size hg⟩
theorem ev_at {w wr : World} {g : Nat} {x : Au} (y : Au) (v A E : Nat) (h : Al w wr g x) (hi : Inv x) (hy : evX x v = y) (hA : evA x v = A) (hE : evE x v = E) :
    Calls Try.prog 8 #[.pointer (some ⟨g, 0, none⟩), .int .u8 v] wr fun o w' => o = .returned (.tuple #[.int .u16 A, .int .i64 E]) ∧ Al w w' g y :=
  (event_any x g v wr h.1 hi).mono fun _ _ ⟨ho, ha, hm⟩ => ⟨by rw [ho, hA, hE], by rw [← hy]; exact h.moves hm ha⟩
theorem tk_at {w wr : World} {g : Nat} {x : Au} (y : Au) (A : Nat) (t : Bool) (h : Al w wr g x) (hi : Inv x) (hy : tk x = y) (hA : tkS x = A) (ht : decide (x.l = 1) = t) :
    Calls Try.prog 9 #[.pointer (some ⟨g, 0, none⟩)] wr fun o w' => o = .returned (.tuple #[.int .u16 A, .bool t]) ∧ Al w w' g y :=
  (tick_any x g wr h.1 hi).mono fun _ _ ⟨ho, ha, hm⟩ => ⟨by rw [ho, hA, ht], by rw [← hy]; exact h.moves hm ha⟩
/-- How it stands ahead of the i-th round of the chapter's example. -/
def stO (i : Nat) : Au := if i < 2 then ⟨3, 2, 1, 6, 1 - i, 3⟩ else ⟨3, 2, 1, 3, 0, 0⟩
theorem inv_in (i k : Nat) (hi : i < 2) (hk : k ≤ 2) : Inv ⟨3, 2, 1, 6, 1 - i, 3 - k⟩ :=
  ⟨by show 1 ≤ 3; decide, by show 3 ≤ 1000; decide, by show 1 ≤ 2; decide, by show 2 ≤ 20; decide, by show 1 ≤ 1; decide, by show 1 ≤ 20; decide, by show 6 < 10; decide, by show 1 - i ≤ 2; omega, Nat.sub_le _ _, by
    show true = decide (0 < 3 - k)
    rw [decide_eq_true (by omega)]⟩
theorem tk_in (c k : Nat) (hk : k < 2) : tk ⟨3, 2, 1, 6, c, 3 - k⟩ = ⟨3, 2, 1, 6, c, 3 - (k + 1)⟩ := by
  unfold tk
  rw [if_neg (by show ¬ 3 - k = 0; omega), if_neg (by show ¬ 3 - k = 1; omega)]
  rfl
theorem tkS_in (c k : Nat) (hk : k < 2) : tkS ⟨3, 2, 1, 6, c, 3 - k⟩ = 0 := if_neg (by show ¬ 3 - k = 1; omega)
set_option maxHeartbeats 4000000 in
set_option maxRecDepth 100000 in
theorem alive_any (w : World) : Calls Try.prog 7 #[] w fun o w' => o = .returned (.bool true) ∧ Below w.heap.size w w' := by
  go_enter Try.func7, Try.ntmps7
  go_wp2_with fail
  refine (new_ok 3 2 1 _ (by decide)).mono ?_
  rintro o w1 ⟨g, rfl, hg, ha, hb⟩
  have H1 : Hid (Al w w1 g ⟨3, 2, 1, 0, 0, 0⟩) := Al.new (Below.refl _ _) ha hg hb
  clear hg ha hb
  go_wp2_with fail
  refine (ev_at ⟨3, 2, 1, 1, 0, 0⟩ 2 4 0 H1.out (new_inv (by decide)) (by kernel_rfl) (by kernel_rfl) (by kernel_rfl)).mono ?_
  rintro o w2 ⟨rfl, h⟩
  have H2 := Lib.hid h
  clear h H1
  go_wp2_with fail
  refine (ev_at ⟨3, 2, 1, 6, 1, 3⟩ 0 80 0 H2.out (by constructor <;> decide) (by kernel_rfl) (by kernel_rfl) (by kernel_rfl)).mono ?_
  rintro o w3 ⟨rfl, h⟩
  have H3 := Lib.hid h
  clear h H2
  go_wp2_with fail
  refine (counter_any g _ _ H3.out.1).mono ?_
  rintro o _ ⟨rfl, rfl⟩
  go_wp2_with fail
  refine (left_any g _ _ H3.out.1).mono ?_
  rintro o _ ⟨rfl, rfl⟩
  go_wp2_with fail
  go_loopw [5] (fun u wr => ∃ i : Nat, i ≤ 2 ∧ u = .int .i64 i ∧ Hid (Al w wr g (stO i))) (fun u _ => 2 - (intOf u).toNat)
  case atStart => exact ⟨0, Nat.zero_le _, rfl, H3⟩
  case round =>
    obtain ⟨i, hi, rfl, HF⟩ := hrel
    by_cases hlt : i < 2
    · have HI := Lib.hid (show stO i = ⟨3, 2, 1, 6, 1 - i, 3⟩ from if_pos hlt)
      rw [HI.out] at HF
      obtain ⟨wo, rfl⟩ : ∃ wo : World, wo = wr := ⟨_, rfl⟩
      have hi1 : (i : Int) < 2 := by omega
      have hi2 := decide_eq_true hi1
      go_wp2
      go_loopw [6] (fun u wr => ∃ k : Nat, k ≤ 2 ∧ u = .int .i64 k ∧ Hid (Al w wr g ⟨3, 2, 1, 6, 1 - i, 3 - k⟩)) (fun u _ => 2 - (intOf u).toNat)
      case atStart => exact ⟨0, Nat.zero_le _, rfl, HF⟩
      case round =>
        obtain ⟨k, hk, rfl, HG⟩ := hrel
        by_cases hkt : k < 2
        · go_wp2_with fail
          refine (tk_at ⟨3, 2, 1, 6, 1 - i, 3 - (k + 1)⟩ 0 false HG.out (inv_in i k hlt hk) (tk_in _ k hkt) (tkS_in _ k hkt) (decide_eq_false (by show ¬ 3 - k = 1; omega))).mono ?_
          rintro o w4 ⟨rfl, h⟩
          have H4 := Lib.hid h
          clear h HG HF
          go_wp2
          go_roundw
          case rel => exact ⟨k + 1, by omega, by go_num, H4⟩
          case measure => simp [intOf]; omega
        · obtain rfl : k = 2 := by omega
          have HI1 : Hid (stO (i + 1) = tk ⟨3, 2, 1, 6, 1 - i, 1⟩) := by
            show _ = _
            obtain rfl | rfl : i = 0 ∨ i = 1 := by omega
            · kernel_rfl
            · kernel_rfl
          obtain rfl | rfl : i = 0 ∨ i = 1 := by omega
          · go_wp2_with fail
            refine (tk_at _ 64 true HG.out (inv_in 0 2 hlt hk) HI1.out.symm (by kernel_rfl) (by kernel_rfl)).mono ?_
            rintro o w4 ⟨rfl, h⟩
            have H4 := Lib.hid h
            clear h HG HF
            go_wp2
            go_roundw
            case rel => exact ⟨1, by omega, by go_num, H4⟩
            case measure => simp [intOf]
          · go_wp2_with fail
            refine (tk_at _ 8 true HG.out (inv_in 1 2 hlt hk) HI1.out.symm (by kernel_rfl) (by kernel_rfl)).mono ?_
            rintro o w4 ⟨rfl, h⟩
            have H4 := Lib.hid h
            clear h HG HF
            go_wp2
            go_roundw
            case rel => exact ⟨2, by omega, by go_num, H4⟩
            case measure => simp [intOf]
    · obtain rfl : i = 2 := by omega
      go_wp2_with fail
      refine (ev_at ⟨3, 2, 1, 3, 0, 0⟩ 4 0 2 HF.out (by constructor <;> decide) (by kernel_rfl) (by kernel_rfl) (by kernel_rfl)).mono ?_
      rintro o w4 ⟨rfl, h⟩
      have H4 := Lib.hid h
      clear h HF H3
      go_wp2_with fail
      refine (new_no 0 0 0 _ (by decide)).mono ?_
      rintro o w5 ⟨rfl, hb⟩
      have H5 := Lib.hid (H4.out.callee hb)
      clear hb H4
      go_wp2_with fail
      refine (state_any g _ _ H5.out.1).mono ?_
      rintro o _ ⟨rfl, rfl⟩
      go_wp2
      go_ret
      exact ⟨rfl, H5.out.2.1⟩

theorem long_any (A : Option Addr) (n c : Nat) (w : World) : Calls Try.prog 6 #[.slice A n c] w fun o w' => o = .returned (.bool (decide (3000 < n))) ∧ w = w' := by
  by_cases h : 3000 < n
  · have h1 : (3000 : Int) < (n : Int) := by omega
    rw [decide_eq_true h]
    clear h
    go_enter Try.func6, Try.ntmps6
    go_wp2
    go_ret
    exact ⟨rfl, rfl⟩
  · have h1 : decide ((3000 : Int) < (n : Int)) = false := decide_eq_false (by omega)
    rw [decide_eq_false h]
    clear h
    go_enter Try.func6, Try.ntmps6
    go_wp2
    go_ret
    exact ⟨rfl, rfl⟩
end Go.Proofs.Ytkabjdejljdbiaa.Aut
