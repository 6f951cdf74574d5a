/- The law's own examples ('alive') of escaping. -/
import Derived.Test.YtbihjpdenfjojaaEscE
import Derived.Test.YtbihjpdenfjojaaEscF
import Derived.Test.YtbihjpdenfjojaaEscG
namespace Go.Proofs.Ytbihjpdenfjojaa.Esc
open Go.RowKit Go.Proofs.Ytbihjpdenfjojaa.Oct

theorem getA_b (l : List UInt8) : getA (bOf l) = if getOk l then bOf (grun l).1 else bOf [] := by unfold getA; rw [toList_bOf]
theorem getE_b (l : List UInt8) : getE (bOf l) = if getOk l then 0 else 7 := by unfold getE; rw [toList_bOf]

theorem ex_get1 (w : World) : Calls Try.prog 7 #[.string ⟨#[125, 94, 65]⟩] w fun e w' => e = .returned (.tuple #[.string ⟨#[126, 65]⟩, .int .i64 0]) ∧ Below w.heap.size w w' := by
  have h := get_any (bOf [125, 94, 65]) w (by decide)
  rw [getA_b, getE_b, show getOk [125, 94, 65] = true by decide +kernel, show grun [125, 94, 65] = ([126, 65], false) by decide +kernel] at h
  exact h
theorem ex_get2 (w : World) : Calls Try.prog 7 #[.string ⟨#[65, 125]⟩] w fun e w' => e = .returned (.tuple #[.string ⟨#[]⟩, .int .i64 7]) ∧ Below w.heap.size w w' := by
  have h := get_any (bOf [65, 125]) w (by decide)
  rw [getA_b, getE_b, show getOk [65, 125] = false by decide +kernel] at h
  exact h
theorem ex_get3 (w : World) : Calls Try.prog 7 #[.string ⟨#[125, 125]⟩] w fun e w' => e = .returned (.tuple #[.string ⟨#[93]⟩, .int .i64 0]) ∧ Below w.heap.size w w' := by
  have h := get_any (bOf [125, 125]) w (by decide)
  rw [getA_b, getE_b, show getOk [125, 125] = true by decide +kernel, show grun [125, 125] = ([93], false) by decide +kernel] at h
  exact h
theorem ex_put1 (w : World) : Calls Try.prog 12 #[.string ⟨#[126, 65, 125]⟩, .int .u32 0] w fun e w' => e = .returned (.string ⟨#[125, 94, 65, 125, 93]⟩) ∧ Below w.heap.size w w' := by
  have h := put_any (bOf [126, 65, 125]) 0 w (by decide) (by decide)
  rw [toList_bOf, show put 0 [126, 65, 125] = [125, 94, 65, 125, 93] by decide +kernel] at h
  exact h
theorem ex_put2 (w : World) : Calls Try.prog 12 #[.string ⟨#[10, 11]⟩, .int .u32 1024] w fun e w' => e = .returned (.string ⟨#[125, 42, 11]⟩) ∧ Below w.heap.size w w' := by
  have h := put_any (bOf [10, 11]) 1024 w (by decide) (by decide)
  rw [toList_bOf, show put 1024 [10, 11] = [125, 42, 11] by decide +kernel] at h
  exact h
theorem ex_strip (w : World) : Calls Try.prog 14 #[.string ⟨#[10, 65]⟩, .int .u32 1024] w fun e w' => e = .returned (.string ⟨#[65]⟩) ∧ Below w.heap.size w w' := by
  have h := strip_any (bOf [10, 65]) 1024 w (by decide) (by decide)
  rw [toList_bOf, show strip 1024 [10, 65] = [65] by decide +kernel] at h
  exact h
theorem ex_size (w : World) : Calls Try.prog 13 #[.string ⟨#[126]⟩, .int .u32 0] w fun e w' => e = .returned (.int .i64 2) ∧ Below w.heap.size w w' := by
  have h := size_any (bOf [126]) 0 w (by decide) (by decide)
  rw [toList_bOf, show put 0 [126] = [125, 94] by decide +kernel] at h
  exact h

set_option maxHeartbeats 2000000 in
set_option maxRecDepth 100000 in
theorem alive_any (w : World) : Calls Try.prog 6 #[] w fun e w' => e = .returned (.bool true) ∧ Below w.heap.size w w' := by
  go_enter Try.func6, Try.ntmps6
  go_wp2_with fail
  refine (ex_get1 _).mono ?_
  rintro e w1 ⟨rfl, hb1⟩
  go_wp2_with fail
  refine (ex_get2 _).mono ?_
  rintro e w2 ⟨rfl, hb2⟩
  go_wp2_with fail
  refine (ex_get3 _).mono ?_
  rintro e w3 ⟨rfl, hb3⟩
  go_wp2_with fail
  refine (ex_put1 _).mono ?_
  rintro e w4 ⟨rfl, hb4⟩
  go_wp2_with fail
  refine (ex_put2 _).mono ?_
  rintro e w5 ⟨rfl, hb5⟩
  go_wp2_with fail
  refine (ex_strip _).mono ?_
  rintro e w6 ⟨rfl, hb6⟩
  go_wp2_with fail
  refine (ex_size _).mono ?_
  rintro e w7 ⟨rfl, hb7⟩
  go_wp2_with fail
  go_ret
  have B2 := hb1.trans (hb2.mono hb1.size)
  have B3 := B2.trans (hb3.mono B2.size)
  have B4 := B3.trans (hb4.mono B3.size)
  have B5 := B4.trans (hb5.mono B4.size)
  have B6 := B5.trans (hb6.mono B5.size)
  exact ⟨rfl, B6.trans (hb7.mono B6.size)⟩

theorem calls_below_eq {f : FuncId} {args : Array Value} {w : World} {v : Value} (h : Calls Try.prog f args w fun e w' => e = .returned v ∧ w = w') : Calls Try.prog f args w fun e w' => e = .returned v ∧ Below w.heap.size w w' :=
  h.mono fun _ _ ⟨he, hk⟩ => ⟨he, by rw [← hk]; exact Below.refl _ _⟩
theorem beq_self (s : ByteArray) : (s.toList == s.toList) = true := by simp
theorem own : ownKnob Try.prog.godebug = none := by kernel_rfl
theorem laidOut : laidOutB Try.prog = true := by kernel_rfl
end Go.Proofs.Ytbihjpdenfjojaa.Esc
