/- What the laws of layers 12 and 13 share: Next of both, told by the table. -/
import Derived.Test.YtkabjdejljdbiaaFsmH
import Derived.OpenShut
namespace Go.Proofs.Ytkabjdejljdbiaa.Fsm
open Go.RowKit Go.Proofs.Ytkabjdejljdbiaa.Oct Go.Proofs.Ytkabjdejljdbiaa.Row Go.Proofs.Ytkabjdejljdbiaa.Mem

theorem own : ownKnob Try.prog.godebug = none := by kernel_rfl
theorem laidOut : laidOutB Try.prog = true := by kernel_rfl
/-- What both answer. -/
theorem next_same (s e : Nat) : ∃ A N E : Nat, Hid (∀ w, Calls Try.prog 20 #[.int .u8 s, .int .u8 e] w fun x w' => x = .returned (.tuple #[.int .u16 A, .int .u8 N, .int .i64 E]) ∧ Below w.heap.size w w') ∧
    Hid (∀ w, Calls Try.prog 29 #[.int .u8 s, .int .u8 e] w fun x w' => x = .returned (.tuple #[.int .u16 A, .int .u8 N, .int .i64 E]) ∧ Below w.heap.size w w') :=
  ⟨nA s e, nN s e, nE s e, fun w => next_any s e w, fun w => rnext_any s e w⟩
/-- Numbers that were handed back. -/
def NumsAt (w : World) (v : Value) (l : List Nat) : Prop := ∃ A c, v = .slice A l.length c ∧ ∀ (j x : Nat), l[j]? = some x → ∃ g, A = some ⟨g, 0, none⟩ ∧ w.cell? ⟨g, j, none⟩ = some (.int .u16 (x : Int))
theorem nums_at {w : World} {base : Nat} {v : Value} {l : List Nat} (h : w.ownsRow base 28 1 v l.length (numsV l)) : NumsAt w v l := by
  rcases h.2 with ⟨rfl, h0⟩ | ⟨g, cap, cur, rfl, _⟩
  · exact ⟨none, 0, by rw [h0], fun j x hj => by have := (List.getElem?_eq_some_iff.1 hj).1; omega⟩
  · refine ⟨some ⟨g, 0, none⟩, cap, rfl, fun j x hj => ⟨g, rfl, ?_⟩⟩
    rw [h.cellAt j (by have := (List.getElem?_eq_some_iff.1 hj).1; omega)]
    unfold numsV
    rw [List.getElem?_map, hj]
    rfl
theorem NumsAt.callee {w w' : World} {v : Value} {l : List Nat} (h : NumsAt w v l) (hb : Below w.heap.size w w') : NumsAt w' v l := by
  obtain ⟨A, c, rfl, hc⟩ := h
  exact ⟨A, c, rfl, fun j x hj => by obtain ⟨g, e, hg⟩ := hc j x hj; exact ⟨g, e, stays hb hg⟩⟩

/-- An event of the arguments. -/
theorem event_at {w : World} {B : Nat} {A : Option Addr} {n k : Nat} (h : Ints w B A n .u8) (hk : k < n) : ∃ (ad : Addr) (y : Nat), A = some ad ∧ y ≤ 255 ∧ w.cell? (ad.add k) = some (.int .u8 (y : Int)) := by
  obtain ⟨ad, z, hA, _, hc, hz⟩ := h k hk
  have hb := bounds_u8 hz
  refine ⟨ad, z.toNat, hA, by omega, ?_⟩
  rw [hc, Int.toNat_of_nonneg (by omega)]
theorem ev_of (y : Nat) (_ : y ≤ 255) : ∃ ev : Nat, ev < 16 ∧ (y : Int).tmod 16 = (ev : Int) := ⟨y % 16, Nat.mod_lt _ (by decide), rfl⟩
/-- Either the combination is impossible, or the table has it. -/
theorem next_cases (s e : Nat) (hs : s < 10) (he : e < 16) :
    ((at_ e s).c = false ∧ Hid (∀ w, Calls Try.prog 20 #[.int .u8 s, .int .u8 e] w fun x w' => x = .returned (.tuple #[.int .u16 0, .int .u8 0, .int .i64 120]) ∧ Below w.heap.size w w')) ∨
    ∃ a n : Nat, at_ e s = ⟨a, n, true⟩ ∧ Hid (∀ w, Calls Try.prog 20 #[.int .u8 s, .int .u8 e] w fun x w' => x = .returned (.tuple #[.int .u16 a, .int .u8 n, .int .i64 0]) ∧ Below w.heap.size w w') := by
  have hx := tbl_at e s he hs
  generalize at_ e s = x at *
  obtain ⟨a, n, c⟩ := x
  cases c
  · exact .inl ⟨rfl, fun w => next_no s e a n w hs he hx⟩
  · exact .inr ⟨a, n, rfl, fun w => next_yes s e a n w hs he hx⟩
theorem int_beq (m k : Nat) : ((m : Int) == (k : Int)) = decide (m = k) := by
  by_cases h : m = k
  · rw [decide_eq_true h, h]; simp
  · rw [decide_eq_false h, beq_eq_false_iff_ne]; omega
theorem int_bne (m k : Nat) : ((m : Int) != (k : Int)) = !decide (m = k) := by
  rw [← int_beq]; rfl
def upOk (e s : Nat) : Bool :=
  let x := at_ e s
  !x.c || (decide (x.n < 10) && decide (x.a < 65536) && (has x.a 1 == (decide (x.n = 9) && !decide (s = 9))) && (has x.a 2 == (decide (s = 9) && !decide (x.n = 9))) && !(has x.a 4 && !decide (x.n = 1)) && !(has x.a 8 && timed x.n))
theorem up_ok : ∀ e, e < 16 → ∀ s, s < 10 → upOk e s = true := by decide +kernel
theorem up_spec {e s a n : Nat} (he : e < 16) (hs : s < 10) (h : at_ e s = ⟨a, n, true⟩) :
    n < 10 ∧ a < 65536 ∧ has a 1 = (decide (n = 9) && !decide (s = 9)) ∧ has a 2 = (decide (s = 9) && !decide (n = 9)) ∧ (has a 4 && !decide (n = 1)) = false ∧ (has a 8 && timed n) = false := by
  have h1 := up_ok e he s hs
  unfold upOk at h1
  rw [h] at h1
  simp only [Bool.not_true, Bool.false_or, Bool.and_eq_true, decide_eq_true_eq, beq_iff_eq, Bool.not_eq_true'] at h1
  obtain ⟨⟨⟨⟨⟨h2, h3⟩, h4⟩, h5⟩, h6⟩, h7⟩ := h1
  exact ⟨h2, h3, h4, h5, h6, h7⟩
end Go.Proofs.Ytkabjdejljdbiaa.Fsm
