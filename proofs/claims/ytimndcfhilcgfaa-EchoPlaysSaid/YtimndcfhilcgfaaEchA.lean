/- An echo in memory; Next, Dead, Missed, Copy; what is answered of nil. -/
import Derived.Test.YtimndcfhilcgfaaEchPure
import Derived.Test.YtimndcfhilcgfaaProg
import Derived.WalkKit
import Derived.WalkSpells
import Derived.WalkLawsBesides
import Derived.RegionTactic
import Derived.ChangeAlike
import Derived.Deep.QuietTactic
import Derived.Lib.Hide
import Derived.KernelRfl
namespace Go.Proofs.Ytimndcfhilcgfaa.Ech
open Go.RowKit Go.Proofs.Ytimndcfhilcgfaa.Oct Go.Proofs.Ytimndcfhilcgfaa.Row Go.Proofs.Ytimndcfhilcgfaa.Mem

def ptr (g : Nat) : Value := .pointer (some ⟨g, 0, none⟩)
/-- An echo of the program in block g; one of the document. -/
def EAt (w : World) (g : Nat) (x : Ec) : Prop := Blk w g (pv x) 58
theorem EAt.lt {w : World} {g : Nat} {x : Ec} (h : EAt w g x) : g < w.heap.size := Blk.lt h
theorem EAt.c {w : World} {g : Nat} {x : Ec} (h : EAt w g x) (i : Nat) : w.cell? ⟨g, i, none⟩ = (pv x)[i]? := Blk.at_ h i
theorem EAt.f {w : World} {g : Nat} {x : Ec} (h : EAt w g x) (i : Nat) : w.frozen? ⟨g, i, none⟩ = false := Blk.frozen h i
theorem EAt.moves {S : Nat → Prop} {w w' : World} {g : Nat} {x : Ec} (h : EAt w g x) (hm : Moves S w w') (hs : ¬ S g) : EAt w' g x := Blk.moves h hm hs
theorem EAt.callee {w w' : World} {g : Nat} {x : Ec} (h : EAt w g x) (hb : Below w.heap.size w w') : EAt w' g x := Blk.callee h hb
theorem EAt.alloc {w : World} {g : Nat} {x : Ec} (h : EAt w g x) (o : Obj) : EAt (w.alloc o) g x := Blk.alloc h o
theorem EAt.drewN {w : World} {g : Nat} {x : Ec} (h : EAt w g x) (k : Nat) : EAt (w.drewN k) g x := h
theorem EAt.setNow {w : World} {g : Nat} {x : Ec} (h : EAt w g x) (t : Int) : EAt (w.setCell ⟨g, 1, none⟩ (.int .i64 t)) g { x with now := t } := Blk.set h 1 (.int .i64 t)
theorem EAt.setSi {w : World} {g : Nat} {x : Ec} (h : EAt w g x) (t : Int) : EAt (w.setCell ⟨g, 2, none⟩ (.int .i64 t)) g { x with si := t } := Blk.set h 2 (.int .i64 t)
theorem EAt.setMi {w : World} {g : Nat} {x : Ec} (h : EAt w g x) (n : Nat) : EAt (w.setCell ⟨g, 7, none⟩ (.int .i64 n)) g { x with mi := n } := Blk.set h 7 (.int .i64 n)
theorem EAt.setDe {w : World} {g : Nat} {x : Ec} (h : EAt w g x) (b : Bool) : EAt (w.setCell ⟨g, 8, none⟩ (.bool b)) g { x with de := b } := Blk.set h 8 (.bool b)
theorem dead_any (g : Nat) (x : Ec) (w : World) (h : EAt w g x) : Calls Try.prog 11 #[ptr g] w fun e w' => e = .returned (.bool x.de) ∧ w = w' := by
  have c : w.cell? ⟨g, 8, none⟩ = some (.bool x.de) := h.c 8
  clear h
  unfold ptr
  go_enter Try.func11, Try.ntmps11
  go_wp2
  go_ret
  exact ⟨rfl, rfl⟩
set_option maxHeartbeats 400000 in
set_option maxRecDepth 100000 in
theorem missed_any (g : Nat) (x : Ec) (w : World) (h : EAt w g x) : Calls Try.prog 12 #[ptr g] w fun e w' => e = .returned (.int .i64 x.mi) ∧ w = w' := by
  have c : w.cell? ⟨g, 7, none⟩ = some (.int .i64 x.mi) := h.c 7
  clear h
  unfold ptr
  go_enter Try.func12, Try.ntmps12
  go_wp2
  go_ret
  exact ⟨rfl, rfl⟩
theorem at_le {x : Ec} (h : Inv x) : 0 ≤ x.si ∧ x.si ≤ 1152921504606846976 := ⟨h.si0, Int.le_trans h.si1 h.now⟩
set_option maxHeartbeats 400000 in
set_option maxRecDepth 100000 in
theorem next_any (g : Nat) (x : Ec) (w : World) (h : EAt w g x) (hi : Inv x) : Calls Try.prog 10 #[ptr g] w fun e w' => e = .returned (.tuple #[.int .i64 (atV x), .bool (isB x)]) ∧ ∃ k, w' = w.drewN k := by
  have c0 : w.cell? ⟨g, 0, none⟩ = some (.int .i64 x.ev) := h.c 0
  have c2 : w.cell? ⟨g, 2, none⟩ = some (.int .i64 x.si) := h.c 2
  have c8 : w.cell? ⟨g, 8, none⟩ = some (.bool x.de) := h.c 8
  have hl := at_le hi
  have hv := hi.ev
  clear h hi
  unfold ptr atV isB
  by_cases h0 : x.ev = 0
  · have e0 : ((x.ev : Int) == 0) = true := by rw [h0]; rfl
    rw [show decide (x.ev = 0) = true from decide_eq_true h0]
    clear h0
    go_enter Try.func10, Try.ntmps10
    go_wp2
    go_ret2
    exact ⟨rfl, 0, rfl⟩
  · have e0 : ((x.ev : Int) == 0) = false := by rw [beq_eq_false_iff_ne]; omega
    rw [show decide (x.ev = 0) = false from decide_eq_false h0]
    have HS : Hid (wrap64 (x.si + x.ev) = x.si + x.ev) := IntWalk.wrap64_in _ (by omega)
    clear h0 hl hv
    cases hd : x.de
    · rw [hd] at c8
      clear hd
      generalize x.si = a at *
      go_enter Try.func10, Try.ntmps10
      go_wp2
      go_quiet (fail)
      go_wp2
      go_ret2
      refine ⟨?_, nq, rfl⟩
      rw [HS.out]
      rfl
    · rw [hd] at c8
      clear hd
      go_enter Try.func10, Try.ntmps10
      go_wp2
      go_ret2
      exact ⟨rfl, 0, rfl⟩
end Go.Proofs.Ytimndcfhilcgfaa.Ech
