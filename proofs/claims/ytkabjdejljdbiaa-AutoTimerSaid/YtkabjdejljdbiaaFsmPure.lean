/- The table of the automaton as a function on numbers. Of no program. -/
import Derived.Test.YtkabjdejljdbiaaBlk
namespace Go.Proofs.Ytkabjdejljdbiaa.Fsm
open Go.RowKit Go.Proofs.Ytkabjdejljdbiaa.Oct Go.Proofs.Ytkabjdejljdbiaa.Row Go.Proofs.Ytkabjdejljdbiaa.Mem

/-- A cell: the bits of its actions, the next state, whether it can be. -/
structure Cl where
  a : Nat
  n : Nat
  c : Bool
  deriving DecidableEq, Repr
def Cl.cells (x : Cl) : List Value := [.int .u16 x.a, .int .u8 x.n, .bool x.c]
def Cl.val (x : Cl) : Value := .agg x.cells.toArray
def no : Cl := ⟨0, 0, false⟩
/-- The cells of a row of cells. -/
def flat (l : List Cl) : List Value := l.flatMap Cl.cells
theorem flat_nil : flat [] = [] := rfl
theorem flat_cons (x : Cl) (l : List Cl) : flat (x :: l) = x.cells ++ flat l := rfl
theorem flat_append (l m : List Cl) : flat (l ++ m) = flat l ++ flat m := List.flatMap_append
theorem flat_length : ∀ l : List Cl, (flat l).length = l.length * 3
  | [] => rfl
  | x :: l => by rw [flat_cons, List.length_append, flat_length l, List.length_cons, Nat.succ_mul, Nat.add_comm]; rfl
theorem flat_one (l : List Cl) : ∀ v ∈ flat l, v.oneCell' = true := by
  intro v hv
  obtain ⟨x, _, hx⟩ := List.mem_flatMap.1 hv
  simp only [Cl.cells, List.mem_cons, List.not_mem_nil, or_false] at hx
  rcases hx with rfl | rfl | rfl <;> rfl
theorem flat_at : ∀ (l : List Cl) (i : Nat), (flat l)[i * 3]? = (l[i]?).map (fun x => .int .u16 x.a) ∧ (flat l)[i * 3 + 1]? = (l[i]?).map (fun x => .int .u8 x.n) ∧ (flat l)[i * 3 + 2]? = (l[i]?).map (fun x => .bool x.c)
  | [], i => by simp [flat_nil]
  | x :: l, 0 => ⟨rfl, rfl, rfl⟩
  | x :: l, i + 1 => by
    have h := flat_at l i
    have e : (flat (x :: l)) = .int .u16 x.a :: .int .u8 x.n :: .bool x.c :: flat l := rfl
    rw [e, show (i + 1) * 3 = i * 3 + 1 + 1 + 1 by omega, show i * 3 + 1 + 1 + 1 + 1 = (i * 3 + 1) + 1 + 1 + 1 by omega, show i * 3 + 1 + 1 + 1 + 2 = (i * 3 + 2) + 1 + 1 + 1 by omega]
    simp only [List.getElem?_cons_succ]
    exact h
theorem flat_take : ∀ (l : List Cl) (i : Nat), (flat l).take (i * 3) = flat (l.take i)
  | [], i => by simp [flat_nil]
  | x :: l, 0 => by simp [flat_nil]
  | x :: l, i + 1 => by
    rw [flat_cons, List.take_succ_cons, flat_cons, ← flat_take l i, show (i + 1) * 3 = i * 3 + 1 + 1 + 1 by omega]
    rfl
theorem flat_drop : ∀ (l : List Cl) (i : Nat), (flat l).drop (i * 3) = flat (l.drop i)
  | [], i => by simp [flat_nil]
  | x :: l, 0 => by simp
  | x :: l, i + 1 => by
    rw [flat_cons, List.drop_succ_cons, ← flat_drop l i, show (i + 1) * 3 = i * 3 + 1 + 1 + 1 by omega]
    rfl

/-- Cells are laid over a row, from the k-th on. -/
def over (t : List Cl) (k : Nat) (l : List Cl) : List Cl := t.take k ++ l ++ t.drop (k + l.length)
theorem over_length (t : List Cl) (k : Nat) (l : List Cl) (h : k + l.length ≤ t.length) : (over t k l).length = t.length := by
  unfold over
  simp only [List.length_append, List.length_take, List.length_drop]
  omega
theorem flat_over (t : List Cl) (k : Nat) (l : List Cl) : flat (over t k l) = (flat t).take (k * 3) ++ flat l ++ (flat t).drop (k * 3 + (flat l).length) := by
  unfold over
  rw [flat_append, flat_append, flat_take, flat_length, show k * 3 + l.length * 3 = (k + l.length) * 3 by omega, flat_drop]
/-- All the rows are laid, one behind the other, each from the state f on. -/
def lays (f : Nat) (t : List Cl) (rs : List (Nat × List Cl)) : List Cl := rs.foldl (fun t r => over t (r.1 * 10 + f) r.2) t
theorem lays_cons (f : Nat) (t : List Cl) (r : Nat × List Cl) (rs : List (Nat × List Cl)) : lays f t (r :: rs) = lays f (over t (r.1 * 10 + f) r.2) rs := rfl
/-- The bits of numbers, all together. -/
def ors (l : List Nat) : Nat := l.foldl (· ||| ·) 0
end Go.Proofs.Ytkabjdejljdbiaa.Fsm
