/- The contracts row by row. -/
import Derived.Test.YtbkcdpfelkbhaaaIpcH
import Derived.Test.YtbkcdpfelkbhaaaOptAs
namespace Go.Proofs.Ytbkcdpfelkbhaaa.Ipc
open Go.RowKit Go.Proofs.Ytbkcdpfelkbhaaa.Oct Go.Proofs.Ytbkcdpfelkbhaaa.Row Go.Proofs.Ytbkcdpfelkbhaaa.Mem Go.Proofs.Ytbkcdpfelkbhaaa.Opt

theorem get_row (l : List Opt) (A : Option Addr) (n c : Nat) (w : World) (hl : Opts w w.heap.size A n l) (hn : n ≤ 1001) : Calls Try.prog 27 #[.slice A n c] w (GetQ l w) := get_any l _ A n c w hl hn (Nat.le_refl _)
theorem rget_row (l : List Opt) (A : Option Addr) (n c : Nat) (w : World) (hl : Opts w w.heap.size A n l) (hn : n ≤ 1001) : Calls Try.prog 68 #[.slice A n c] w (GetQ l w) := rget_any l _ A n c w hl hn (Nat.le_refl _)
theorem getQ_some {l : List Opt} {x : Ipc} {odd : List Opt} (h : st l = some (x, odd)) {w : World} {e : Ending} {w' : World} (hq : GetQ l w e w') : ∃ A c, e = .returned (.tuple #[.agg (lv x).toArray, .slice A odd.length c, .int .i64 0]) ∧ Opts w' w'.heap.size A odd.length odd ∧ Below w.heap.size w w' := by
  unfold GetQ at hq
  rw [(get_some h).1, (get_some h).2.1, (get_some h).2.2] at hq
  exact hq
theorem same_rows (a b : List Opt) (A A' : Option Addr) (n m c c' : Nat) (w : World) (ha : Opts w w.heap.size A n a) (hb : Opts w w.heap.size A' m b) (hn : n ≤ maxLen) (hm : m ≤ maxLen) :
    Calls Try.prog 24 #[.slice A n c, .slice A' m c'] w fun e w' => e = .returned (.bool (sm a b)) ∧ Below w.heap.size w w' := rsame_any a b _ A A' n m c c' w ha hb hn hm (Nat.le_refl _)
theorem same_self (a : List Opt) (A A' : Option Addr) (n m c c' : Nat) (w : World) (ha : Opts w w.heap.size A n a) (hb : Opts w w.heap.size A' m a) (hn : n ≤ maxLen) (hm : m ≤ maxLen) :
    Calls Try.prog 24 #[.slice A n c, .slice A' m c'] w fun e w' => e = .returned (.bool true) ∧ Below w.heap.size w w' := by
  have h := same_rows a a A A' n m c c' w ha hb hn hm
  rw [sm_self] at h
  exact h
end Go.Proofs.Ytbkcdpfelkbhaaa.Ipc
