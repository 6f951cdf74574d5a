/- The laws' own examples ('alive'). -/
import Derived.Test.YtiglblmedaanpaaFsmH
namespace Go.Proofs.Ytiglblmedaanpaa.Fsm
open Go.RowKit Go.Proofs.Ytiglblmedaanpaa.Oct Go.Proofs.Ytiglblmedaanpaa.Row Go.Proofs.Ytiglblmedaanpaa.Mem

theorem ex1 (w : World) : Calls Try.prog 7 #[.int .u8 0, .int .u8 2] w fun x w' => x = .returned (.tuple #[.int .u16 4, .int .u8 1, .int .i64 0]) ∧ Below w.heap.size w w' := by
  have h := next_any 0 2 w
  rw [show nR 0 2 = .tuple #[.int .u16 (4 : Nat), .int .u8 (1 : Nat), .int .i64 (0 : Nat)] by unfold nR; rw [show nA 0 2 = 4 by decide +kernel, show nN 0 2 = 1 by decide +kernel, show nE 0 2 = 0 by decide +kernel]] at h
  exact h
theorem ex2 (w : World) : Calls Try.prog 7 #[.int .u8 8, .int .u8 8] w fun x w' => x = .returned (.tuple #[.int .u16 17, .int .u8 9, .int .i64 0]) ∧ Below w.heap.size w w' := by
  have h := next_any 8 8 w
  rw [show nR 8 8 = .tuple #[.int .u16 (17 : Nat), .int .u8 (9 : Nat), .int .i64 (0 : Nat)] by unfold nR; rw [show nA 8 8 = 17 by decide +kernel, show nN 8 8 = 9 by decide +kernel, show nE 8 8 = 0 by decide +kernel]] at h
  exact h
theorem ex3 (w : World) : Calls Try.prog 7 #[.int .u8 9, .int .u8 4] w fun x w' => x = .returned (.tuple #[.int .u16 0, .int .u8 0, .int .i64 120]) ∧ Below w.heap.size w w' := by
  have h := next_any 9 4 w
  rw [show nR 9 4 = .tuple #[.int .u16 (0 : Nat), .int .u8 (0 : Nat), .int .i64 (120 : Nat)] by unfold nR; rw [show nA 9 4 = 0 by decide +kernel, show nN 9 4 = 0 by decide +kernel, show nE 9 4 = 120 by decide +kernel]] at h
  exact h
theorem ex4 (w : World) : Calls Try.prog 7 #[.int .u8 10, .int .u8 0] w fun x w' => x = .returned (.tuple #[.int .u16 0, .int .u8 0, .int .i64 2]) ∧ Below w.heap.size w w' :=
  next_bad 10 0 w (.inl (by decide))
theorem ex5 (w : World) : Calls Try.prog 9 #[.int .u8 7] w fun x w' => x = .returned (.tuple #[.string ⟨#[65, 99, 107, 82, 99, 118, 100]⟩, .bool true]) ∧ Below w.heap.size w w' := state_any 7 w

set_option maxHeartbeats 2000000 in
set_option maxRecDepth 100000 in
theorem alive_any (w : World) : Calls Try.prog 15 #[] w fun e w' => e = .returned (.bool true) ∧ Below w.heap.size w w' := by
  have HH := Lib.hid (Below.refl w.heap.size w)
  go_enter Try.func15, Try.ntmps15
  go_wp2_with fail
  refine (ex1 _).mono ?_
  rintro e w1 ⟨rfl, hb⟩
  have HH1 := Lib.hid (HH.out.trans (hb.mono HH.out.size))
  clear hb
  go_wp2_with fail
  refine (ex2 _).mono ?_
  rintro e w2 ⟨rfl, hb⟩
  have HH2 := Lib.hid (HH1.out.trans (hb.mono HH1.out.size))
  clear hb
  go_wp2_with fail
  refine (ex3 _).mono ?_
  rintro e w3 ⟨rfl, hb⟩
  have HH3 := Lib.hid (HH2.out.trans (hb.mono HH2.out.size))
  clear hb
  go_wp2_with fail
  refine (ex4 _).mono ?_
  rintro e w4 ⟨rfl, hb⟩
  have HH4 := Lib.hid (HH3.out.trans (hb.mono HH3.out.size))
  clear hb
  go_wp2_with fail
  refine (ex5 _).mono ?_
  rintro e w5 ⟨rfl, hb⟩
  have HH5 := Lib.hid (HH4.out.trans (hb.mono HH4.out.size))
  clear hb
  go_wp2
  go_ret
  exact ⟨rfl, HH5.out⟩
end Go.Proofs.Ytiglblmedaanpaa.Fsm
