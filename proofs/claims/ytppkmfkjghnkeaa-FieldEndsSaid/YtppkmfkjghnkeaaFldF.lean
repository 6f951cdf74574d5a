/- The laws' own examples ('alive') of a frame's fields. -/
import Derived.Test.YtppkmfkjghnkeaaFldE
namespace Go.Proofs.Ytppkmfkjghnkeaa.Fld
open Go.RowKit Go.Proofs.Ytppkmfkjghnkeaa.Oct Go.Proofs.Ytppkmfkjghnkeaa.Row

/-- A struct of two bools in a block of its own. -/
def Box (W : World) (g : Nat) (a c : Bool) : Prop := W.heap[g]? = some (.cells #[.bool a, .bool c] 24 (0, 0))
theorem Box.lt {W : World} {g : Nat} {a c : Bool} (h : Box W g a c) : g < W.heap.size := (Array.getElem?_eq_some_iff.1 h).1
theorem Box.callee {W W' : World} {g : Nat} {a c : Bool} (h : Box W g a c) (hb : Below W.heap.size W W') : Box W' g a c := (hb.block g h.lt).trans h
theorem box_laid (w : World) (a c : Bool) : Box (w.alloc (.cells #[.bool a, .bool c] 24)) w.heap.size a c := World.alloc_heap_new w _
theorem Box.c0 {W : World} {g : Nat} {a c : Bool} (h : Box W g a c) : W.cell? ⟨g, 0, none⟩ = some (.bool a) := (cell_of_row W g 0 _ _ _ h).trans rfl
theorem Box.c1 {W : World} {g : Nat} {a c : Bool} (h : Box W g a c) : W.cell? ⟨g, 1, none⟩ = some (.bool c) := (cell_of_row W g 1 _ _ _ h).trans rfl

theorem ex_put1 (w : World) : Calls Try.prog 8 #[.int .u16 33, .string ⟨#[120]⟩, .agg #[.bool false, .bool false]] w fun e w' => e = .returned (.tuple #[.string ⟨#[255, 3, 0, 33, 120]⟩, .int .i64 0]) ∧ Below w.heap.size w w' := by
  have h := put_any 33 (bOf [120]) false false w (by decide) (by decide)
  rw [show putA 33 (bOf [120]) false false = bOf [255, 3, 0, 33, 120] by unfold putA; rw [toList_bOf]; decide +kernel, show putE 33 = 0 by decide +kernel] at h
  exact h
theorem ex_put2 (w : World) : Calls Try.prog 8 #[.int .u16 33, .string ⟨#[120]⟩, .agg #[.bool true, .bool true]] w fun e w' => e = .returned (.tuple #[.string ⟨#[33, 120]⟩, .int .i64 0]) ∧ Below w.heap.size w w' := by
  have h := put_any 33 (bOf [120]) true true w (by decide) (by decide)
  rw [show putA 33 (bOf [120]) true true = bOf [33, 120] by unfold putA; rw [toList_bOf]; decide +kernel, show putE 33 = 0 by decide +kernel] at h
  exact h
theorem ex_put3 (w : World) : Calls Try.prog 8 #[.int .u16 49185, .string ⟨#[120]⟩, .agg #[.bool true, .bool true]] w fun e w' => e = .returned (.tuple #[.string ⟨#[255, 3, 192, 33, 120]⟩, .int .i64 0]) ∧ Below w.heap.size w w' := by
  have h := put_any 49185 (bOf [120]) true true w (by decide) (by decide)
  rw [show putA 49185 (bOf [120]) true true = bOf [255, 3, 192, 33, 120] by unfold putA; rw [toList_bOf]; decide +kernel, show putE 49185 = 0 by decide +kernel] at h
  exact h
theorem ex_get1 (w : World) : Calls Try.prog 10 #[.string ⟨#[255, 3]⟩] w fun e w' => e = .returned (.tuple #[.int .u16 0, .string ⟨#[]⟩, .int .i64 6]) ∧ Below w.heap.size w w' := by
  have h := get_any (bOf [255, 3]) w (by decide)
  rw [toList_bOf, show gP (skip [255, 3]) = 0 by decide +kernel, show gR (skip [255, 3]) = [] by decide +kernel, show gE (skip [255, 3]) = 6 by decide +kernel] at h
  exact h
theorem ex_get2 (w : World) : Calls Try.prog 10 #[.string ⟨#[255, 4, 1]⟩] w fun e w' => e = .returned (.tuple #[.int .u16 0, .string ⟨#[]⟩, .int .i64 7]) ∧ Below w.heap.size w w' := by
  have h := get_any (bOf [255, 4, 1]) w (by decide)
  rw [toList_bOf, show gP (skip [255, 4, 1]) = 0 by decide +kernel, show gR (skip [255, 4, 1]) = [] by decide +kernel, show gE (skip [255, 4, 1]) = 7 by decide +kernel] at h
  exact h

set_option maxHeartbeats 2000000 in
set_option maxRecDepth 100000 in
theorem alive_any (w : World) : Calls Try.prog 7 #[] w fun e w' => e = .returned (.bool true) ∧ Below w.heap.size w w' := by
  have hB := box_laid w true true
  have hb0 := (Below.refl w.heap.size w).alloc (Nat.le_refl _) (.cells #[.bool true, .bool true] 24)
  have HB := Lib.hid hB; clear hB
  have Hb0 := Lib.hid hb0; clear hb0
  go_enter Try.func7, Try.ntmps7
  go_wp2_with fail
  refine (ex_put1 _).mono ?_
  rintro e w1 ⟨rfl, hb1⟩
  have HB1 := HB.out.callee hb1
  have Hb1 := Lib.hid (Hb0.out.trans (hb1.mono Hb0.out.size))
  have k0 := HB1.c0
  have k1 := HB1.c1
  have HB1 := Lib.hid HB1
  clear hb1
  go_wp2_with fail
  refine (ex_put2 _).mono ?_
  rintro e w2 ⟨rfl, hb2⟩
  have HB2 := HB1.out.callee hb2
  have Hb2 := Lib.hid (Hb1.out.trans (hb2.mono Hb1.out.size))
  have l0 := HB2.c0
  have l1 := HB2.c1
  have HB2 := Lib.hid HB2
  clear hb2
  go_wp2_with fail
  refine (ex_put3 _).mono ?_
  rintro e w3 ⟨rfl, hb3⟩
  go_wp2_with fail
  refine (ex_get1 _).mono ?_
  rintro e w4 ⟨rfl, hb4⟩
  go_wp2_with fail
  refine (ex_get2 _).mono ?_
  rintro e w5 ⟨rfl, hb5⟩
  go_wp2
  go_ret
  have B3 := Hb2.out.trans (hb3.mono Hb2.out.size)
  have B4 := B3.trans (hb4.mono B3.size)
  exact ⟨rfl, B4.trans (hb5.mono B4.size)⟩

theorem calls_below_eq {f : FuncId} {args : Array Value} {w : World} {v : Value} (h : Calls Try.prog f args w fun e w' => e = .returned v ∧ w = w') : Calls Try.prog f args w fun e w' => e = .returned v ∧ Below w.heap.size w w' :=
  h.mono fun _ _ ⟨he, hk⟩ => ⟨he, by rw [← hk]; exact Below.refl _ _⟩
theorem calls_below_k {f : FuncId} {args : Array Value} {w : World} {v : Value} (h : Calls Try.prog f args w fun e w' => e = .returned v ∧ ∃ k, w' = w.drewN k) : Calls Try.prog f args w fun e w' => e = .returned v ∧ Below w.heap.size w w' :=
  h.mono fun _ _ ⟨he, k, hk⟩ => ⟨he, by rw [hk]; exact below_drewN _ _⟩
/-- What was put, what is got of it. -/
theorem put_yes (p : Nat) (l : List UInt8) (a c : Bool) (w : World) (hp : p < 65536) (hm : may p = true) (hl : l.length ≤ 1048576) :
    Calls Try.prog 8 #[.int .u16 p, .string (bOf l), .agg #[.bool a, .bool c]] w fun e w' => e = .returned (.tuple #[.string (bOf (heads p a c ++ l)), .int .i64 0]) ∧ Below w.heap.size w w' := by
  have h := put_any p (bOf l) a c w hp (by rw [size_bOf]; exact hl)
  unfold putA putE at h
  rw [hm, if_pos rfl, if_pos rfl, toList_bOf] at h
  exact h
theorem get_at (l : List UInt8) (w : World) (hl : l.length ≤ 1048576) :
    Calls Try.prog 10 #[.string (bOf l)] w fun e w' => e = .returned (.tuple #[.int .u16 (gP (skip l)), .string (bOf (gR (skip l))), .int .i64 (gE (skip l))]) ∧ Below w.heap.size w w' := by
  have h := get_any (bOf l) w (by rw [size_bOf]; exact hl)
  rw [toList_bOf] at h
  exact h
theorem get_back (p : Nat) (l : List UInt8) (a c : Bool) (w : World) (hp : p < 65536) (hm : may p = true) (hl : l.length ≤ 131072) :
    Calls Try.prog 10 #[.string (bOf (heads p a c ++ l))] w fun e w' => e = .returned (.tuple #[.int .u16 p, .string (bOf l), .int .i64 0]) ∧ Below w.heap.size w w' := by
  have h := get_at (heads p a c ++ l) w (by have := heads_pos p a c; rw [List.length_append]; omega)
  have hg := got_heads hp hm a c l
  rw [hg.1, hg.2.1, hg.2.2] at h
  exact h
theorem may_is (p : Nat) (b : Bool) (w : World) (hp : p < 65536) (hm : may p = b) : Calls Try.prog 12 #[.int .u16 p] w fun e w' => e = .returned (.bool b) ∧ Below w.heap.size w w' := by
  rw [← hm]
  exact calls_below_eq (may_any p w hp)
theorem beq_self (s : ByteArray) : (s.toList == s.toList) = true := by simp
theorem own : ownKnob Try.prog.godebug = none := by kernel_rfl
theorem laidOut : laidOutB Try.prog = true := by kernel_rfl
end Go.Proofs.Ytppkmfkjghnkeaa.Fld
