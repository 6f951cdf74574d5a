/- New, and the document's May; Copy; what is answered of nil. -/
import Derived.Test.YtimndcfhilcgfaaEchA
import Derived.Carry
namespace Go.Proofs.Ytimndcfhilcgfaa.Ech
open Go.RowKit Go.Proofs.Ytimndcfhilcgfaa.Oct Go.Proofs.Ytimndcfhilcgfaa.Row Go.Proofs.Ytimndcfhilcgfaa.Mem

/-- A conf in a variable's block; a clock. -/
theorem boxC (w : World) (a b : Int) : ∃ W, w.alloc (.cells #[.int .i64 a, .int .i64 b] 23) = W ∧ W.cell? ⟨w.heap.size, 0, none⟩ = some (.int .i64 a) ∧ W.cell? ⟨w.heap.size, 1, none⟩ = some (.int .i64 b) ∧ Hid (Below w.heap.size w W) := by
  have h := blk_new w [.int .i64 a, .int .i64 b] 23
  exact ⟨_, rfl, h.at_ 0, h.at_ 1, (Below.refl w.heap.size w).alloc (Nat.le_refl _) _⟩
theorem boxD (w : World) (a b d : Int) : ∃ W, w.alloc (.cells #[.int .i64 a, .int .i64 b, .int .i64 d] 56) = W ∧ W.cell? ⟨w.heap.size, 0, none⟩ = some (.int .i64 a) ∧ W.cell? ⟨w.heap.size, 1, none⟩ = some (.int .i64 b) ∧ W.cell? ⟨w.heap.size, 2, none⟩ = some (.int .i64 d) ∧ Hid (Below w.heap.size w W) := by
  have h := blk_new w [.int .i64 a, .int .i64 b, .int .i64 d] 56
  exact ⟨_, rfl, h.at_ 0, h.at_ 1, h.at_ 2, (Below.refl w.heap.size w).alloc (Nat.le_refl _) _⟩
def okC (e m : Int) : Bool := decide (0 ≤ e) && decide (e ≤ 100000) && decide (1 ≤ m) && decide (m ≤ 20)
theorem may_ok (e m t : Int) : may e m t = (okC e m && decide (0 ≤ t) && decide (t ≤ mx)) := by unfold may okC; rfl
set_option maxHeartbeats 1000000 in
set_option maxRecDepth 100000 in
theorem valid_any (e m : Int) (w : World) : Calls Try.prog 27 #[.agg #[.int .i64 e, .int .i64 m]] w fun o w' => o = .returned (.bool (okC e m)) ∧ Below w.heap.size w w' := by
  obtain ⟨W, hW, c0, c1, HB⟩ := boxC w e m
  unfold okC
  go_enter Try.func27, Try.ntmps27
  go_wp2
  all_goals (go_ret; exact ⟨by first | (simp_all; done) | (simp_all; omega), HB.out⟩)
/-- A new echo. -/
def nw (e m : Nat) (mg : Nat) (t : Int) : Ec := ⟨e, m, mg, t, t, 0, 0, false⟩
def NewQ (x : Ec) (w : World) (o : Ending) (w' : World) : Prop := ∃ g, o = .returned (.tuple #[ptr g, .int .i64 0]) ∧ w.heap.size ≤ g ∧ EAt w' g x ∧ Below w.heap.size w w'
set_option maxHeartbeats 4000000 in
set_option maxRecDepth 100000 in
theorem new_ok (e m mg : Nat) (t : Int) (w : World) (h : may e m t = true) : Calls Try.prog 14 #[.agg #[.int .i64 e, .int .i64 m], .int .u32 mg, .int .i64 t] w (NewQ (nw e m mg t) w) := by
  rw [may_ok] at h
  simp only [Bool.and_eq_true] at h
  obtain ⟨⟨h1, h2⟩, h3⟩ := h
  have HR : Hid (∀ w, Calls Try.prog 27 #[.agg #[.int .i64 e, .int .i64 m]] w fun o w' => o = .returned (.bool true) ∧ Below w.heap.size w w') := fun w => by have := valid_any e m w; rw [h1] at this; exact this
  have h20 : (0 : Int) ≤ t := of_decide_eq_true h2
  have h2' : decide (t < 0) = false := decide_eq_false (Int.not_lt.2 h20)
  have h3' : decide ((1152921504606846976 : Int) < t) = false := decide_eq_false (Int.not_lt.2 (of_decide_eq_true h3))
  clear h1 h2 h3
  obtain ⟨W, hW, c0, c1, HB⟩ := boxC w e m
  have HS := Lib.hid HB.out.size
  go_enter Try.func14, Try.ntmps14
  go_wp2_with fail
  refine (HR.out _).mono ?_
  rintro o w1 ⟨rfl, hb⟩
  have HB1 := Lib.hid (HB.out.trans (hb.mono HS.out))
  have d0 : w1.cell? ⟨w.heap.size, 0, none⟩ = some (.int .i64 e) := (hb.cell (p := ⟨w.heap.size, 0, none⟩) (World.block_lt_of_cell? W _ c0)).trans c0
  have d1 : w1.cell? ⟨w.heap.size, 1, none⟩ = some (.int .i64 m) := (hb.cell (p := ⟨w.heap.size, 1, none⟩) (World.block_lt_of_cell? W _ c1)).trans c1
  obtain ⟨V, hV, f0, f1, f2, HD⟩ := boxD w1 e t t
  have HL : Hid (w.heap.size ≤ V.heap.size) := (HB1.out.trans (HD.out.mono HB1.out.size)).size
  have HA : Hid (EAt (V.alloc (.cells #[.int .i64 e, .int .i64 t, .int .i64 t, .int .i64 m, .int .u32 mg, .bool false, .int .u8 0, .int .i64 0, .bool false] 58)) V.heap.size (nw e m mg t)) := blk_new V (pv (nw e m mg t)) _
  have HE : Hid (Below w.heap.size w (V.alloc (.cells #[.int .i64 e, .int .i64 t, .int .i64 t, .int .i64 m, .int .u32 mg, .bool false, .int .u8 0, .int .i64 0, .bool false] 58))) := (HB1.out.trans (HD.out.mono HB1.out.size)).alloc HL.out _
  have g0 : V.cell? ⟨w.heap.size, 0, none⟩ = some (.int .i64 e) := (HD.out.cell (p := ⟨w.heap.size, 0, none⟩) (World.block_lt_of_cell? w1 _ d0)).trans d0
  have g1 : V.cell? ⟨w.heap.size, 1, none⟩ = some (.int .i64 m) := (HD.out.cell (p := ⟨w.heap.size, 1, none⟩) (World.block_lt_of_cell? w1 _ d1)).trans d1
  clear hb hW c0 c1 HR h20 HB
  go_wp2
  go_ret2
  exact ⟨_, rfl, HL.out, HA.out, HE.out⟩
set_option maxHeartbeats 4000000 in
set_option maxRecDepth 100000 in
theorem new_no (e m mg t : Int) (w : World) (h : may e m t = false) : Calls Try.prog 14 #[.agg #[.int .i64 e, .int .i64 m], .int .u32 mg, .int .i64 t] w fun o w' => o = .returned (.tuple #[.pointer none, .int .i64 2]) ∧ Below w.heap.size w w' := by
  rw [may_ok] at h
  have HR : Hid (∀ w, Calls Try.prog 27 #[.agg #[.int .i64 e, .int .i64 m]] w fun o w' => o = .returned (.bool (okC e m)) ∧ Below w.heap.size w w') := fun w => valid_any e m w
  obtain ⟨W, hW, c0, c1, HB⟩ := boxC w e m
  have HS := Lib.hid HB.out.size
  generalize okC e m = k at *
  obtain ⟨p1, h1⟩ : ∃ p : Bool, decide (t < 0) = p := ⟨_, rfl⟩
  obtain ⟨p2, h2⟩ : ∃ p : Bool, decide ((1152921504606846976 : Int) < t) = p := ⟨_, rfl⟩
  have h0 : k = false ∨ p1 = true ∨ p2 = true := by
    cases k
    · exact .inl rfl
    · right
      by_cases ht : t < 0
      · exact .inl (by rw [← h1]; exact decide_eq_true ht)
      · right
        rw [← h2]
        refine decide_eq_true (Int.not_le.1 fun e => ?_)
        rw [Bool.true_and, decide_eq_true (Int.not_lt.1 ht), Bool.true_and, decide_eq_true (show t ≤ mx from e)] at h
        cases h
  clear h
  cases k
  · clear h0
    go_enter Try.func14, Try.ntmps14
    go_wp2_with fail
    refine (HR.out _).mono ?_
    rintro o w1 ⟨rfl, hb⟩
    have HB1 := Lib.hid (HB.out.trans (hb.mono HS.out))
    clear hb
    go_wp2
    go_ret2
    exact ⟨rfl, HB1.out⟩
  · cases p1
    · obtain rfl : p2 = true := by simpa using h0
      clear h0
      go_enter Try.func14, Try.ntmps14
      go_wp2_with fail
      refine (HR.out _).mono ?_
      rintro o w1 ⟨rfl, hb⟩
      have HB1 := Lib.hid (HB.out.trans (hb.mono HS.out))
      clear hb
      go_wp2
      go_ret2
      exact ⟨rfl, HB1.out⟩
    · clear h0 h2
      go_enter Try.func14, Try.ntmps14
      go_wp2_with fail
      refine (HR.out _).mono ?_
      rintro o w1 ⟨rfl, hb⟩
      have HB1 := Lib.hid (HB.out.trans (hb.mono HS.out))
      clear hb
      go_wp2
      go_ret2
      exact ⟨rfl, HB1.out⟩
end Go.Proofs.Ytimndcfhilcgfaa.Ech
