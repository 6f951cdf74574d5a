/- New of the program. -/
import Derived.Test.YtkabjdejljdbiaaAutD
namespace Go.Proofs.Ytkabjdejljdbiaa.Aut
open Go.RowKit Go.Proofs.Ytkabjdejljdbiaa.Oct Go.Proofs.Ytkabjdejljdbiaa.Row Go.Proofs.Ytkabjdejljdbiaa.Mem Go.Proofs.Ytkabjdejljdbiaa.Fsm

def ok (n m : Int) : Bool := decide (1 ≤ n) && decide (n ≤ m)
def may (a b d : Int) : Bool := ok a 1000 && ok b 20 && ok d 20
/-- A conf in a variable's block. -/
theorem boxC (w : World) (a b d : Int) : ∃ W, w.alloc (.cells #[.int .i64 a, .int .i64 b, .int .i64 d] 23) = W ∧ W.cell? ⟨w.heap.size, 0, none⟩ = some (.int .i64 a) ∧ W.cell? ⟨w.heap.size, 1, none⟩ = some (.int .i64 b) ∧ W.cell? ⟨w.heap.size, 2, none⟩ = some (.int .i64 d) ∧ Hid (Below w.heap.size w W) := by
  have h := blk_new w [.int .i64 a, .int .i64 b, .int .i64 d] 23
  exact ⟨_, rfl, h.at_ 0, h.at_ 1, h.at_ 2, (Below.refl w.heap.size w).alloc (Nat.le_refl _) _⟩
theorem boxD (w : World) (a b d : Int) : ∃ W, w.alloc (.cells #[.int .i64 a, .int .i64 b, .int .i64 d] 50) = W ∧ W.cell? ⟨w.heap.size, 0, none⟩ = some (.int .i64 a) ∧ W.cell? ⟨w.heap.size, 1, none⟩ = some (.int .i64 b) ∧ W.cell? ⟨w.heap.size, 2, none⟩ = some (.int .i64 d) ∧ Hid (Below w.heap.size w W) := by
  have h := blk_new w [.int .i64 a, .int .i64 b, .int .i64 d] 50
  exact ⟨_, rfl, h.at_ 0, h.at_ 1, h.at_ 2, (Below.refl w.heap.size w).alloc (Nat.le_refl _) _⟩
def NewQ (x : Au) (w : World) (o : Ending) (w' : World) : Prop := ∃ g, o = .returned (.tuple #[.pointer (some ⟨g, 0, none⟩), .int .i64 0]) ∧ w.heap.size ≤ g ∧ Aut w' g x ∧ Below w.heap.size w w'
set_option maxHeartbeats 4000000 in
theorem new_ok (r mc mt : Nat) (w : World) (h : may r mc mt = true) : Calls Try.prog 14 #[.agg #[.int .i64 r, .int .i64 mc, .int .i64 mt]] w (NewQ ⟨r, mc, mt, 0, 0, 0⟩ w) := by
  simp only [may, Bool.and_eq_true] at h
  obtain ⟨⟨h1, h2⟩, h3⟩ := h
  have HR1 : Hid (∀ w, Calls Try.prog 23 #[.int .i64 r, .int .i64 1000] w fun o w' => o = .returned (.bool true) ∧ w = w') := fun w => by have := within_any r 1000 w; rw [show (decide ((1 : Int) ≤ r) && decide ((r : Int) ≤ 1000)) = true from h1] at this; exact this
  have HR2 : Hid (∀ w, Calls Try.prog 23 #[.int .i64 mc, .int .i64 20] w fun o w' => o = .returned (.bool true) ∧ w = w') := fun w => by have := within_any mc 20 w; rw [show (decide ((1 : Int) ≤ mc) && decide ((mc : Int) ≤ 20)) = true from h2] at this; exact this
  have HR3 : Hid (∀ w, Calls Try.prog 23 #[.int .i64 mt, .int .i64 20] w fun o w' => o = .returned (.bool true) ∧ w = w') := fun w => by have := within_any mt 20 w; rw [show (decide ((1 : Int) ≤ mt) && decide ((mt : Int) ≤ 20)) = true from h3] at this; exact this
  clear h1 h2 h3
  obtain ⟨W, hW, c0, c1, c2, HB⟩ := boxC w r mc mt
  obtain ⟨V, hV, d0, d1, d2, HD⟩ := boxD W r mc mt
  have HL : Hid (w.heap.size ≤ V.heap.size) := (HB.out.trans (HD.out.mono HB.out.size)).size
  have HA : Hid (Aut (V.alloc (.cells #[.int .i64 r, .int .i64 mc, .int .i64 mt, .int .u8 0, .int .i64 0, .int .i64 0] 52)) V.heap.size ⟨r, mc, mt, 0, 0, 0⟩) := blk_new V (av ⟨r, mc, mt, 0, 0, 0⟩) _
  have HE : Hid (Below w.heap.size w (V.alloc (.cells #[.int .i64 r, .int .i64 mc, .int .i64 mt, .int .u8 0, .int .i64 0, .int .i64 0] 52))) := (HB.out.trans (HD.out.mono HB.out.size)).alloc HL.out _
  go_enter Try.func14, Try.ntmps14
  go_wp2_with fail
  refine (HR1.out _).mono ?_
  rintro o _ ⟨rfl, rfl⟩
  go_wp2_with fail
  refine (HR2.out _).mono ?_
  rintro o _ ⟨rfl, rfl⟩
  go_wp2_with fail
  refine (HR3.out _).mono ?_
  rintro o _ ⟨rfl, rfl⟩
  clear HR1 HR2 HR3 HB HD
  go_wp2
  go_ret2
  exact ⟨_, rfl, HL.out, HA.out, HE.out⟩
set_option maxHeartbeats 4000000 in
theorem new_no (a b d : Int) (w : World) (h : may a b d = false) : Calls Try.prog 14 #[.agg #[.int .i64 a, .int .i64 b, .int .i64 d]] w fun o w' => o = .returned (.tuple #[.pointer none, .int .i64 2]) ∧ Below w.heap.size w w' := by
  have HR1 : Hid (∀ w, Calls Try.prog 23 #[.int .i64 a, .int .i64 1000] w fun o w' => o = .returned (.bool (ok a 1000)) ∧ w = w') := fun w => within_any a 1000 w
  have HR2 : Hid (∀ w, Calls Try.prog 23 #[.int .i64 b, .int .i64 20] w fun o w' => o = .returned (.bool (ok b 20)) ∧ w = w') := fun w => within_any b 20 w
  have HR3 : Hid (∀ w, Calls Try.prog 23 #[.int .i64 d, .int .i64 20] w fun o w' => o = .returned (.bool (ok d 20)) ∧ w = w') := fun w => within_any d 20 w
  unfold may at h
  obtain ⟨W, hW, c0, c1, c2, HB⟩ := boxC w a b d
  generalize ok a 1000 = p1 at *
  generalize ok b 20 = p2 at *
  generalize ok d 20 = p3 at *
  cases p1
  · clear h
    go_enter Try.func14, Try.ntmps14
    go_wp2_with fail
    refine (HR1.out _).mono ?_
    rintro o _ ⟨rfl, rfl⟩
    go_wp2
    go_ret2
    exact ⟨rfl, HB.out⟩
  · cases p2
    · clear h
      go_enter Try.func14, Try.ntmps14
      go_wp2_with fail
      refine (HR1.out _).mono ?_
      rintro o _ ⟨rfl, rfl⟩
      go_wp2_with fail
      refine (HR2.out _).mono ?_
      rintro o _ ⟨rfl, rfl⟩
      go_wp2
      go_ret2
      exact ⟨rfl, HB.out⟩
    · cases p3
      · clear h
        go_enter Try.func14, Try.ntmps14
        go_wp2_with fail
        refine (HR1.out _).mono ?_
        rintro o _ ⟨rfl, rfl⟩
        go_wp2_with fail
        refine (HR2.out _).mono ?_
        rintro o _ ⟨rfl, rfl⟩
        go_wp2_with fail
        refine (HR3.out _).mono ?_
        rintro o _ ⟨rfl, rfl⟩
        go_wp2
        go_ret2
        exact ⟨rfl, HB.out⟩
      · cases h
end Go.Proofs.Ytkabjdejljdbiaa.Aut
