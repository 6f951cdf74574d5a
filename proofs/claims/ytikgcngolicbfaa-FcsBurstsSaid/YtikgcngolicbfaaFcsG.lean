/- The law's own examples ('alive') of checksums. -/
import Derived.Test.YtikgcngolicbfaaFcsF
namespace Go.Proofs.Ytikgcngolicbfaa.Fcs
open Go.RowKit Go.Proofs.Ytikgcngolicbfaa.Oct

theorem ex_open (w : World) : Calls Try.prog 8 #[.string ⟨#[0]⟩] w fun e w' => e = .returned (.tuple #[.string ⟨#[]⟩, .int .i64 6]) ∧ Below w.heap.size w w' :=
  open_any (bOf [0]) w (by decide)
theorem ex_sum1 (w : World) : Calls Try.prog 12 #[.string ⟨#[49, 50, 51, 52, 53, 54, 55, 56, 57]⟩] w fun e w' => e = .returned (.int .u16 36974) ∧ Below w.heap.size w w' := by
  have h := sum_any (bOf [49, 50, 51, 52, 53, 54, 55, 56, 57]) w (by decide)
  rw [toList_bOf, show sum [49, 50, 51, 52, 53, 54, 55, 56, 57] = 36974 by decide +kernel] at h
  exact h
theorem ex_sum2 (w : World) : Calls Try.prog 12 #[.string ⟨#[]⟩] w fun e w' => e = .returned (.int .u16 0) ∧ Below w.heap.size w w' := by
  have h := sum_any (bOf []) w (by decide)
  rw [toList_bOf, show sum [] = 0 by decide +kernel] at h
  exact h
theorem ex_good1 (w : World) : Calls Try.prog 16 #[.string ⟨#[0, 0]⟩] w fun e w' => e = .returned (.bool true) ∧ Below w.heap.size w w' := by
  have h := good_any (bOf [0, 0]) w (by decide)
  rw [toList_bOf, show good [0, 0] = true by decide +kernel] at h
  exact h
theorem ex_good2 (w : World) : Calls Try.prog 16 #[.string ⟨#[0, 1]⟩] w fun e w' => e = .returned (.bool false) ∧ Below w.heap.size w w' := by
  have h := good_any (bOf [0, 1]) w (by decide)
  rw [toList_bOf, show good [0, 1] = false by decide +kernel] at h
  exact h
theorem ex_more (w : World) : Calls Try.prog 10 #[.int .u16 4660, .string ⟨#[]⟩] w fun e w' => e = .returned (.int .u16 4660) ∧ Below w.heap.size w w' := by
  have h := more_any 4660 (bOf []) w (by decide) (by decide)
  rw [toList_bOf, show more 4660 [] = 4660 by rfl] at h
  exact h

set_option maxHeartbeats 2000000 in
set_option maxRecDepth 100000 in
theorem alive_any (w : World) : Calls Try.prog 7 #[] w fun e w' => e = .returned (.bool true) ∧ Below w.heap.size w w' := by
  go_enter Try.func7, Try.ntmps7
  go_wp2_with fail
  refine (ex_open _).mono ?_
  rintro e w1 ⟨rfl, hb1⟩
  go_wp2_with fail
  refine (ex_sum1 _).mono ?_
  rintro e w2 ⟨rfl, hb2⟩
  go_wp2_with fail
  refine (ex_sum2 _).mono ?_
  rintro e w3 ⟨rfl, hb3⟩
  go_wp2_with fail
  refine (ex_good1 _).mono ?_
  rintro e w4 ⟨rfl, hb4⟩
  go_wp2_with fail
  refine (ex_good2 _).mono ?_
  rintro e w5 ⟨rfl, hb5⟩
  go_wp2_with fail
  refine (ex_more _).mono ?_
  rintro e w6 ⟨rfl, hb6⟩
  go_wp2_with fail
  go_ret
  have B2 := hb1.trans (hb2.mono hb1.size)
  have B3 := B2.trans (hb3.mono B2.size)
  have B4 := B3.trans (hb4.mono B3.size)
  have B5 := B4.trans (hb5.mono B4.size)
  exact ⟨rfl, B5.trans (hb6.mono B5.size)⟩

theorem calls_below_eq {f : FuncId} {args : Array Value} {w : World} {v : Value} (h : Calls Try.prog f args w fun e w' => e = .returned v ∧ w = w') : Calls Try.prog f args w fun e w' => e = .returned v ∧ Below w.heap.size w w' :=
  h.mono fun _ _ ⟨he, hk⟩ => ⟨he, by rw [← hk]; exact Below.refl _ _⟩
theorem beq_self (s : ByteArray) : (s.toList == s.toList) = true := by simp
theorem own : ownKnob Try.prog.godebug = none := by kernel_rfl
theorem laidOut : laidOutB Try.prog = true := by kernel_rfl
end Go.Proofs.Ytikgcngolicbfaa.Fcs
