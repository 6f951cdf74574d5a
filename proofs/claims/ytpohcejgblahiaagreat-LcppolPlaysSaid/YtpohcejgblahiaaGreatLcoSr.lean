/- LcoSr: parted from XLcoRw.lean.tpl. -/
import Derived.Test.YtpohcejgblahiaaGreatGLcoK
import Derived.Test.YtpohcejgblahiaaGreatOptLo
import Derived.Test.YtpohcejgblahiaaGreatOptRs
namespace Go.Proofs.YtpohcejgblahiaaGreat.Lco
open Go.RowKit Go.Proofs.YtpohcejgblahiaaGreat.Oct Go.Proofs.YtpohcejgblahiaaGreat.Row Go.Proofs.YtpohcejgblahiaaGreat.Mem Go.Proofs.YtpohcejgblahiaaGreat.Opt
theorem same_rows (a b : List Opt) (A A' : Option Addr) (n m c c' : Nat) (w : World) (ha : Opts w w.heap.size A n a) (hb : Opts w w.heap.size A' m b) (hn : n ≤ maxLen) (hm : m ≤ maxLen) :
    Calls Tryz.prog 25 #[.slice A n c, .slice A' m c'] w fun e w' => e = .returned (.bool (sm a b)) ∧ Below w.heap.size w w' := rsame_any a b _ A A' n m c c' w ha hb hn hm (Nat.le_refl _)
theorem same_self (a : List Opt) (A A' : Option Addr) (n m c c' : Nat) (w : World) (ha : Opts w w.heap.size A n a) (hb : Opts w w.heap.size A' m a) (hn : n ≤ maxLen) (hm : m ≤ maxLen) :
    Calls Tryz.prog 25 #[.slice A n c, .slice A' m c'] w fun e w' => e = .returned (.bool true) ∧ Below w.heap.size w w' := by
  have h := same_rows a a A A' n m c c' w ha hb hn hm
  rw [sm_self] at h
  exact h
theorem long_row (l : List Opt) (A : Option Addr) (n c : Nat) (w : World) (hl : Opts w w.heap.size A n l) (hn : n ≤ maxLen) : Calls Tryz.prog 24 #[.slice A n c] w (LongQ l n w) := long_any l _ A n c w hl hn
end Go.Proofs.YtpohcejgblahiaaGreat.Lco
