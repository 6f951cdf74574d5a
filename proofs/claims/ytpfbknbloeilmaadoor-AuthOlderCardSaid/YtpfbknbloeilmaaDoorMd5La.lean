/- From the rows of whoever reaches package md5 to their walks: the tables that are laid. -/
import Derived.Test.YtpfbknbloeilmaaDoorMd5D
import Derived.Test.YtpfbknbloeilmaaDoorLaw
import Derived.Test.YtpfbknbloeilmaaDoorRows
import Derived.ProofKit
import Derived.LaidMore
import Derived.OpenShut
import Derived.Stop.Joined
import Derived.SizedLaws
import Derived.Lib.LaidTab
namespace Go.Proofs.YtpfbknbloeilmaaDoor.Md5
open Go.ChangeShapes Go.WideShapes Go.ChangeAt Go.RowKit Go.WideElems Go.Proofs.YtpfbknbloeilmaaDoor.Oct Go.Proofs.YtpfbknbloeilmaaDoor.Row Go.Proofs.YtpfbknbloeilmaaDoor.Mem

theorem own : ownKnob Tryd.prog.godebug = none := by kernel_rfl
theorem laidOut : laidOutB Tryd.prog = true := by kernel_rfl
theorem gSines : Tryd.prog.globalNamed "halyard/md5.sines" = some 0 := by kernel_rfl
theorem gTurns : Tryd.prog.globalNamed "halyard/md5.turns" = some 1 := by kernel_rfl
theorem tSines : (Tryd.prog.globals[0]?).map (·.type) = some 122 := by kernel_rfl
theorem tTurns : (Tryd.prog.globals[1]?).map (·.type) = some 124 := by kernel_rfl
def laid2 : List (String × DataW Unit) := [("halyard/md5.sines", Rows.laid_halyard_md5_sines), ("halyard/md5.turns", Rows.laid_halyard_md5_turns)]

/-- The door's own heap meets the condition. -/
theorem door_met (os : Os) (args : Array Value) : laidMetH Tryd.prog laid2 ((World.doorLaid Tryd.prog 400 os).forCall (fun _ _ => 0) ⟨#[], args, []⟩).memory :=
  laidMetH_of_parts3 (fuel := 8) (laidMet_of_run' 8 (by kernel_rfl) (by kernel_rfl)) (by kernel_rfl) (by kernel_rfl)

theorem four_parts (l : List Value) (h : l.length = 16) : l = (l.drop (0 * 4)).take 4 ++ ((l.drop (1 * 4)).take 4 ++ ((l.drop (2 * 4)).take 4 ++ (l.drop (3 * 4)).take 4)) := by
  have e3 : (l.drop (3 * 4)).take 4 = l.drop (3 * 4) := List.take_of_length_le (by rw [List.length_drop]; omega)
  rw [e3]
  have e2 : (l.drop (2 * 4)).take 4 ++ l.drop (3 * 4) = l.drop (2 * 4) := by
    have := List.take_append_drop 4 (l.drop (2 * 4))
    rwa [List.drop_drop] at this
  rw [e2]
  have e1 : (l.drop (1 * 4)).take 4 ++ l.drop (2 * 4) = l.drop (1 * 4) := by
    have := List.take_append_drop 4 (l.drop (1 * 4))
    rwa [List.drop_drop] at this
  rw [e1]
  have := List.take_append_drop 4 (l.drop (0 * 4))
  rw [List.drop_drop] at this
  exact this.symm
theorem of_laid {W : World} (h : laidMetH Tryd.prog laid2 W) : Globs W := by
  rw [MakeChecks.laidMetH_plain _ _ _ (by kernel_rfl)] at h
  obtain ⟨ps, ⟨g0, t0, cs0, f0, p0, q0, hg0, ht0, hv0, hd0, ⟨g1, t1, cs1, f1, p1, q1, hg1, ht1, hv1, hd1, _, _⟩, _⟩, _, _⟩ := h
  obtain rfl := Option.some.inj (gSines.symm.trans hg0)
  obtain rfl := Option.some.inj (gTurns.symm.trans hg1)
  obtain rfl := Option.some.inj (tSines.symm.trans ht0)
  obtain rfl := Option.some.inj (tTurns.symm.trans ht1)
  have e0 : cs0.toList = (consts.map fun n : Nat => (n : Int)).map fun z => Value.int .u32 z :=
    Lib.cells_of_tab (zs := consts.map fun n : Nat => (n : Int)) Tryd.underlying122 Tryd.underlying42 (by kernel_rfl) (by kernel_rfl) (hd0.trans (congrArg (fun d => some (d, p0)) (by kernel_rfl)))
  refine ⟨fun i hi => ?_, ?_⟩
  · have := World.var?_cell hg0 hv0 i
    rw [this, ← Array.getElem?_toList, e0, List.getElem?_map, List.getElem?_map, kk, List.getD_eq_getElem?_getD, List.getElem?_eq_getElem (show i < consts.length from hi)]
    rfl
  · obtain ⟨xs, m1, rfl, hx, hlen, hn, hel⟩ := DataW.trod_array Tryd.underlying124 hd1
    have c4 : Tryd.prog.cellsOf 123 = 4 := by kernel_rfl
    have c16 : Tryd.prog.cellsOf 124 = 16 := by kernel_rfl
    rw [c16] at hlen
    simp only [c4] at hel
    have hxs : xs.map (·.1) = [Lib.tabData .i64 [7, 12, 17, 22], Lib.tabData .i64 [5, 9, 14, 20], Lib.tabData .i64 [4, 11, 16, 23], Lib.tabData .i64 [6, 10, 15, 21]] := by
      have h := congrArg Prod.fst hx
      simp only [Rows.laid_halyard_md5_turns, DataW.agg.injEq] at h
      exact h.symm
    have part : ∀ (q : Nat) (zs : List Int), q < 4 → (xs.map (·.1))[q]? = some (Lib.tabData .i64 zs) → (cs1.toList.drop (q * 4)).take 4 = zs.map fun z => Value.int .i64 z := by
      intro q zs hq hz
      have h := hel q hq
      rw [List.getElem?_map] at hz
      obtain ⟨⟨d, pl⟩, hy, hd⟩ := Option.map_eq_some_iff.1 hz
      rw [hy] at h
      simp only at hd
      subst hd
      exact Lib.cells_of_tab (zs := zs) Tryd.underlying123 Tryd.underlying3 (by kernel_rfl) (by kernel_rfl) h
    have q0 := part 0 [7, 12, 17, 22] (by omega) (by rw [hxs]; rfl)
    have q1 := part 1 [5, 9, 14, 20] (by omega) (by rw [hxs]; rfl)
    have q2 := part 2 [4, 11, 16, 23] (by omega) (by rw [hxs]; rfl)
    have q3 := part 3 [6, 10, 15, 21] (by omega) (by rw [hxs]; rfl)
    have e1 : cs1.toList = tturns.map fun n => Value.int .i64 (n : Nat) := by
      have h := four_parts cs1.toList hlen
      rw [h, q0, q1, q2, q3]
      rfl
    intro i hi
    have := World.var?_cell hg1 hv1 i
    rw [this, ← Array.getElem?_toList, e1, List.getElem?_map, tt, List.getD_eq_getElem?_getD, List.getElem?_eq_getElem (show i < tturns.length from hi)]
    rfl

end Go.Proofs.YtpfbknbloeilmaaDoor.Md5
