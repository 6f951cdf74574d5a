/- Closing: the cells that it goes by. -/
import Derived.Test.YtiglblmedaanpaaFsmJ
namespace Go.Proofs.Ytiglblmedaanpaa.Fsm
open Go.RowKit Go.Proofs.Ytiglblmedaanpaa.Oct Go.Proofs.Ytiglblmedaanpaa.Row Go.Proofs.Ytiglblmedaanpaa.Mem

theorem next_is (s e a n : Nat) (hs : s < 10) (he : e < 16) (h : at_ e s = ⟨a, n, true⟩) (w : World) :
    Calls Try.prog 7 #[.int .u8 s, .int .u8 e] w fun x w' => x = .returned (.tuple #[.int .u16 a, .int .u8 n, .int .i64 0]) ∧ Below w.heap.size w w' :=
  next_yes s e a n w hs he (by rw [← h]; exact tbl_at e s he hs)
def closeOk (s : Nat) : Bool := (at_ 3 s).c && (decide ((at_ 3 s).n = 0) || decide ((at_ 3 s).n = 2) || decide ((at_ 3 s).n = 4))
theorem close_ok : ∀ s, s < 10 → closeOk s = true := by decide +kernel
theorem close_cases (s : Nat) (hs : s < 10) : ∃ a m : Nat, at_ 3 s = ⟨a, m, true⟩ ∧ (m = 0 ∨ m = 2 ∨ m = 4) := by
  have h := close_ok s hs
  unfold closeOk at h
  generalize at_ 3 s = x at *
  obtain ⟨a, m, c⟩ := x
  simp only [Bool.and_eq_true, Bool.or_eq_true, decide_eq_true_eq] at h
  obtain ⟨rfl, h⟩ := h
  exact ⟨a, m, rfl, by omega⟩
theorem down_is (w : World) : Calls Try.prog 7 #[.int .u8 0, .int .u8 0] w fun x w' => x = .returned (.tuple #[.int .u16 0, .int .u8 2, .int .i64 0]) ∧ Below w.heap.size w w' := next_is 0 0 0 2 (by decide) (by decide) (by decide +kernel) w
theorem out_is (w : World) : Calls Try.prog 7 #[.int .u8 4, .int .u8 4] w fun x w' => x = .returned (.tuple #[.int .u16 512, .int .u8 4, .int .i64 0]) ∧ Below w.heap.size w w' := next_is 4 4 512 4 (by decide) (by decide) (by decide +kernel) w
theorem last_is (w : World) : Calls Try.prog 7 #[.int .u8 4, .int .u8 5] w fun x w' => x = .returned (.tuple #[.int .u16 8, .int .u8 2, .int .i64 0]) ∧ Below w.heap.size w w' := next_is 4 5 8 2 (by decide) (by decide) (by decide +kernel) w
theorem open_is (w : World) : Calls Try.prog 7 #[.int .u8 2, .int .u8 2] w fun x w' => x = .returned (.tuple #[.int .u16 80, .int .u8 6, .int .i64 0]) ∧ Below w.heap.size w w' := next_is 2 2 80 6 (by decide) (by decide) (by decide +kernel) w
theorem has_512 (w : World) : Calls Try.prog 16 #[.int .u16 512, .int .u16 512] w fun x w' => x = .returned (.bool true) ∧ w = w' := has_any 512 512 w (by decide) (by decide)
theorem has_8 (w : World) : Calls Try.prog 16 #[.int .u16 8, .int .u16 8] w fun x w' => x = .returned (.bool true) ∧ w = w' := has_any 8 8 w (by decide) (by decide)
theorem has_64 (w : World) : Calls Try.prog 16 #[.int .u16 80, .int .u16 64] w fun x w' => x = .returned (.bool true) ∧ w = w' := has_any 80 64 w (by decide) (by decide)
theorem timed_2 (w : World) : Calls Try.prog 13 #[.int .u8 2] w fun x w' => x = .returned (.bool false) ∧ w = w' := timed_any 2 w
theorem timed_4 (w : World) : Calls Try.prog 13 #[.int .u8 4] w fun x w' => x = .returned (.bool true) ∧ w = w' := timed_any 4 w
end Go.Proofs.Ytiglblmedaanpaa.Fsm
