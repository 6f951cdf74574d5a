/- IpcGr: parted from XIpcRw.lean.tpl: the program's Get, of a row. -/
import Derived.Test.YthoangihndplkaaIpcD
namespace Go.Proofs.Ythoangihndplkaa.Ipc
open Go.RowKit Go.Proofs.Ythoangihndplkaa.Oct Go.Proofs.Ythoangihndplkaa.Row Go.Proofs.Ythoangihndplkaa.Mem Go.Proofs.Ythoangihndplkaa.Opt

theorem get_row (l : List Opt) (A : Option Addr) (n c : Nat) (w : World) (hl : Opts w w.heap.size A n l) (hn : n ≤ 1001) : Calls Try.prog 31 #[.slice A n c] w (GetQ l w) := get_any l _ A n c w hl hn (Nat.le_refl _)
theorem getQ_some {l : List Opt} {x : Ipc} {odd : List Opt} (h : st l = some (x, odd)) {w : World} {e : Ending} {w' : World} (hq : GetQ l w e w') : ∃ A c, e = .returned (.tuple #[.agg (lv x).toArray, .slice A odd.length c, .int .i64 0]) ∧ Opts w' w'.heap.size A odd.length odd ∧ Below w.heap.size w w' := by
  unfold GetQ at hq
  rw [(get_some h).1, (get_some h).2.1, (get_some h).2.2] at hq
  exact hq
end Go.Proofs.Ythoangihndplkaa.Ipc
