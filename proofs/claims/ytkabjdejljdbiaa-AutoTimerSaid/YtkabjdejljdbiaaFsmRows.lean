/- The rows of the table, as the program's text lays them (by gen/fsm_rows.py); the table as a function. Of no program. -/
import Derived.Test.YtkabjdejljdbiaaFsmPure
namespace Go.Proofs.Ytkabjdejljdbiaa.Fsm

def idle0 : Nat × List Cl := (0, [⟨0, 2, true⟩, ⟨80, 6, true⟩, no, no, no, no])
def idle1 : List (Nat × List Cl) := [
  (1, [no, no, ⟨0, 0, true⟩, ⟨4, 1, true⟩, ⟨0, 0, true⟩, ⟨0, 1, true⟩]),
  (2, [⟨4, 1, true⟩, ⟨0, 1, true⟩, ⟨80, 6, true⟩, ⟨0, 3, true⟩, ⟨0, 5, true⟩, ⟨0, 5, true⟩]),
  (3, [⟨0, 0, true⟩, ⟨8, 0, true⟩, ⟨0, 2, true⟩, ⟨0, 2, true⟩, ⟨0, 4, true⟩, ⟨0, 4, true⟩]),
  (4, [no, no, no, no, ⟨512, 4, true⟩, ⟨512, 5, true⟩]),
  (5, [no, no, no, no, ⟨8, 2, true⟩, ⟨8, 3, true⟩]),
  (6, [no, no, ⟨1024, 2, true⟩, ⟨208, 8, true⟩, ⟨0, 4, true⟩, ⟨0, 5, true⟩]),
  (7, [no, no, ⟨1024, 2, true⟩, ⟨336, 6, true⟩, ⟨0, 4, true⟩, ⟨0, 5, true⟩]),
  (8, [no, no, ⟨1024, 2, true⟩, ⟨1024, 3, true⟩, ⟨0, 4, true⟩, ⟨0, 5, true⟩]),
  (9, [no, no, ⟨1024, 2, true⟩, ⟨1024, 3, true⟩, ⟨0, 4, true⟩, ⟨0, 5, true⟩]),
  (10, [no, no, ⟨1024, 2, true⟩, ⟨1024, 3, true⟩, ⟨1024, 4, true⟩, ⟨1024, 5, true⟩]),
  (11, [no, no, ⟨0, 2, true⟩, ⟨0, 3, true⟩, ⟨8, 2, true⟩, ⟨8, 3, true⟩]),
  (12, [no, no, ⟨2048, 2, true⟩, ⟨2048, 3, true⟩, ⟨2048, 4, true⟩, ⟨2048, 5, true⟩]),
  (13, [no, no, ⟨0, 2, true⟩, ⟨0, 3, true⟩, ⟨0, 4, true⟩, ⟨0, 5, true⟩]),
  (14, [no, no, ⟨8, 2, true⟩, ⟨8, 3, true⟩, ⟨8, 2, true⟩, ⟨8, 3, true⟩]),
  (15, [no, no, ⟨0, 2, true⟩, ⟨0, 3, true⟩, ⟨0, 4, true⟩, ⟨0, 5, true⟩])]
def busy0 : Nat × List Cl := (0, [no, no, no, no])
def busy1 : List (Nat × List Cl) := [
  (1, [⟨0, 1, true⟩, ⟨0, 1, true⟩, ⟨0, 1, true⟩, ⟨2, 1, true⟩]),
  (2, [⟨0, 6, true⟩, ⟨0, 7, true⟩, ⟨0, 8, true⟩, ⟨0, 9, true⟩]),
  (3, [⟨528, 4, true⟩, ⟨528, 4, true⟩, ⟨528, 4, true⟩, ⟨530, 4, true⟩]),
  (4, [⟨64, 6, true⟩, ⟨64, 6, true⟩, ⟨64, 8, true⟩, no]),
  (5, [⟨8, 3, true⟩, ⟨8, 3, true⟩, ⟨8, 3, true⟩, no]),
  (6, [⟨128, 8, true⟩, ⟨129, 9, true⟩, ⟨128, 8, true⟩, ⟨194, 8, true⟩]),
  (7, [⟨256, 6, true⟩, ⟨256, 7, true⟩, ⟨256, 6, true⟩, ⟨322, 6, true⟩]),
  (8, [⟨16, 7, true⟩, ⟨64, 6, true⟩, ⟨17, 9, true⟩, ⟨66, 6, true⟩]),
  (9, [⟨80, 6, true⟩, ⟨64, 6, true⟩, ⟨80, 8, true⟩, ⟨66, 6, true⟩]),
  (10, [⟨1024, 6, true⟩, ⟨1024, 6, true⟩, ⟨1024, 6, true⟩, ⟨1058, 5, true⟩]),
  (11, [⟨0, 6, true⟩, ⟨0, 6, true⟩, ⟨0, 8, true⟩, ⟨66, 6, true⟩]),
  (12, [⟨2048, 6, true⟩, ⟨2048, 7, true⟩, ⟨2048, 8, true⟩, ⟨2048, 9, true⟩]),
  (13, [⟨0, 6, true⟩, ⟨0, 6, true⟩, ⟨0, 8, true⟩, ⟨0, 9, true⟩]),
  (14, [⟨8, 3, true⟩, ⟨8, 3, true⟩, ⟨8, 3, true⟩, ⟨530, 5, true⟩]),
  (15, [⟨0, 6, true⟩, ⟨0, 7, true⟩, ⟨0, 8, true⟩, ⟨4096, 9, true⟩])]
/-- The whole table. -/
def tbl : List Cl := lays 6 (lays 0 (List.replicate 160 no) (idle0 :: idle1)) (busy0 :: busy1)
theorem tbl_length : tbl.length = 160 := by decide +kernel
/-- The cell of an event and a state. -/
def at_ (e s : Nat) : Cl := tbl.getD (e * 10 + s) no
theorem tbl_at (e s : Nat) (he : e < 16) (hs : s < 10) : tbl[e * 10 + s]? = some (at_ e s) := by
  unfold at_
  rw [List.getD_eq_getElem?_getD, List.getElem?_eq_getElem (by rw [tbl_length]; omega)]
  rfl
end Go.Proofs.Ytkabjdejljdbiaa.Fsm
