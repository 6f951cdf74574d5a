/- The document's Get, and Alike, by rows. -/
import Derived.Test.YtcncmddhjbnggaaGreatLcoRw
import Derived.Test.YtcncmddhjbnggaaGreatLcoP
import Derived.Test.YtcncmddhjbnggaaGreatOptA
namespace Go.Proofs.YtcncmddhjbnggaaGreat.Lco
open Go.RowKit Go.Proofs.YtcncmddhjbnggaaGreat.Oct Go.Proofs.YtcncmddhjbnggaaGreat.Row Go.Proofs.YtcncmddhjbnggaaGreat.Mem Go.Proofs.YtcncmddhjbnggaaGreat.Opt

theorem rget_row (l : List Opt) (A : Option Addr) (n c : Nat) (w : World) (hl : Opts w w.heap.size A n l) (hn : n ≤ 1000) : Calls Tryz.prog 26 #[.slice A n c] w (GetQ l w) := rget_any l _ A n c w hl hn (Nat.le_refl _)
theorem alike_rows (a b : List Opt) (A A' : Option Addr) (n m c c' : Nat) (w : World) (ha : Opts w w.heap.size A n a) (hb : Opts w w.heap.size A' m b) (hn : n ≤ maxLen) (hm : m ≤ maxLen) :
    Calls Tryz.prog 39 #[.slice A n c, .slice A' m c'] w fun e w' => e = .returned (.bool (sm a b)) ∧ Below w.heap.size w w' := alike_any a b _ A A' n m c c' w ha hb hn hm (Nat.le_refl _)
theorem rget_c (l : List Opt) (A : Option Addr) (n c : Nat) (w : World) (hl : Opts w w.heap.size A n l) (hn : n ≤ 1000) : Calls Tryz.prog 26 #[.slice A n c] w (GetC (gL l) (gO l) (gE l) w) := rget_row l A n c w hl hn
end Go.Proofs.YtcncmddhjbnggaaGreat.Lco
