/- Contracts of package hdlc's canBeMost, New, Set, take, end; of the document's May. -/
import Derived.Test.YtfcmpnfdgfdclaaHdlMem
import Derived.Test.YtfcmpnfdgfdclaaEscG
namespace Go.Proofs.Ytfcmpnfdgfdclaa.Hdl
open Go.RowKit Go.Proofs.Ytfcmpnfdgfdclaa.Oct Go.Proofs.Ytfcmpnfdgfdclaa.Row Go.Proofs.Ytfcmpnfdgfdclaa.Esc

theorem Try.info5 : (Try.prog.info? 5).map (fun i => (i.zero, i.size, i.bytes)) = some (some (.int .u8 0), 1, 1) := by kernel_rfl

def may (m : Int) : Bool := decide (2 ≤ m) && decide (m ≤ 1508)
theorem may_yes {m : Int} (h1 : 2 ≤ m) (h2 : m ≤ 1508) : may m = true := by unfold may; rw [decide_eq_true h1, decide_eq_true h2]; rfl
theorem may_iff {m : Int} (h : may m = true) : 2 ≤ m ∧ m ≤ 1508 := by
  unfold may at h
  rw [Bool.and_eq_true] at h
  exact ⟨of_decide_eq_true h.1, of_decide_eq_true h.2⟩
theorem may_low {m : Int} (h : ¬ 2 ≤ m) : may m = false := by unfold may; rw [decide_eq_false h]; rfl
theorem may_high {m : Int} (h : ¬ m ≤ 1508) : may m = false := by unfold may; rw [decide_eq_false h]; simp

set_option maxHeartbeats 400000 in
theorem can_any (m : Int) (w : World) : Calls Try.prog 28 #[.int .i64 m] w fun e w' => e = .returned (.bool (may m)) ∧ w = w' := by
  by_cases h1 : 2 ≤ m
  · by_cases h2 : m ≤ 1508
    · have H := Lib.hid (may_yes h1 h2)
      rw [H.out]
      go_enter Try.func28, Try.ntmps28
      go_wp2
      go_ret
      exact ⟨rfl, rfl⟩
    · have H := Lib.hid (may_high h2)
      rw [H.out]
      go_enter Try.func28, Try.ntmps28
      go_wp2
      go_ret
      exact ⟨rfl, rfl⟩
  · have H := Lib.hid (may_low h1)
    rw [H.out]
    go_enter Try.func28, Try.ntmps28
    go_wp2
    go_ret
    exact ⟨rfl, rfl⟩

set_option maxHeartbeats 400000 in
theorem rmay_any (m : Int) (w : World) : Calls Try.prog 17 #[.int .i64 m] w fun e w' => e = .returned (.bool (may m)) ∧ w = w' := by
  by_cases h1 : 2 ≤ m
  · by_cases h2 : m ≤ 1508
    · have H := Lib.hid (may_yes h1 h2)
      rw [H.out]
      go_enter Try.func17, Try.ntmps17
      go_wp2
      go_ret
      exact ⟨rfl, rfl⟩
    · have H := Lib.hid (may_high h2)
      rw [H.out]
      go_enter Try.func17, Try.ntmps17
      go_wp2
      go_ret
      exact ⟨rfl, rfl⟩
  · have H := Lib.hid (may_low h1)
    rw [H.out]
    go_enter Try.func17, Try.ntmps17
    go_wp2
    go_ret
    exact ⟨rfl, rfl⟩

/-- A receiver to which nothing has come. -/
def fresh (m a : Nat) : St := ⟨0, 0, 0, 0, 0, m, a, false, []⟩
theorem fresh_inv {m a : Nat} (h1 : 2 ≤ m) (h2 : m ≤ 1508) (ha : a < 4294967296) : Inv (fresh m a) := ⟨by simp [fresh], fun _ => rfl, h1, h2, ha⟩
theorem fresh_small (m a : Nat) : Small (fresh m a) 0 := ⟨Nat.le_refl _, Nat.le_refl _, Nat.le_refl _, Nat.le_refl _, Nat.le_refl _⟩

set_option maxHeartbeats 400000 in
theorem new_no (m : Int) (a : Nat) (w : World) (hm : may m = false) : Calls Try.prog 16 #[.int .i64 m, .int .u32 a] w fun e w' => e = .returned (.tuple #[.pointer none, .int .i64 2]) ∧ w = w' := by
  have Hm := Lib.hid hm; clear hm
  go_enter Try.func16, Try.ntmps16
  go_wp2_with fail
  refine (can_any m _).mono ?_
  rw [Hm.out]
  rintro e w' ⟨rfl, rfl⟩
  go_wp2
  go_ret2
  exact ⟨rfl, rfl⟩

def NewP (m a : Nat) (w : World) (e : Ending) (w' : World) : Prop := e = .returned (.tuple #[.pointer (some ⟨w.heap.size, 0, none⟩), .int .i64 0]) ∧ Recv w' w.heap.size w.heap.size (fresh m a) (.slice none 0 0) ∧ Below w.heap.size w w' ∧ w'.heap.size = w.heap.size + 1
set_option maxHeartbeats 400000 in
theorem new_yes (m : Nat) (a : Nat) (w : World) (h1 : 2 ≤ m) (h2 : m ≤ 1508) : Calls Try.prog 16 #[.int .i64 m, .int .u32 a] w (NewP m a w) := by
  have Hm := Lib.hid (may_yes (m := (m : Int)) (by omega) (by omega))
  go_enter Try.func16, Try.ntmps16
  go_wp2_with fail
  refine (can_any m _).mono ?_
  rw [Hm.out]
  rintro e w' ⟨rfl, rfl⟩
  go_wp2
  go_ret2
  exact ⟨rfl, ⟨Nat.le_refl _, World.alloc_heap_new w _, World.ownsRow_nil _ _ _ _⟩, (Below.refl _ _).alloc (Nat.le_refl _) _, World.size_alloc _ _⟩

set_option maxHeartbeats 400000 in
theorem set_nil (m : Int) (a : Int) (w : World) : Calls Try.prog 10 #[.pointer none, .int .i64 m, .int .u32 a] w fun e w' => e = .returned (.int .i64 1) ∧ w = w' := by
  go_enter Try.func10, Try.ntmps10
  go_wp2
  go_ret
  exact ⟨rfl, rfl⟩
set_option maxHeartbeats 400000 in
theorem set_no (g : Nat) (m : Int) (a : Int) (w : World) (hm : may m = false) : Calls Try.prog 10 #[.pointer (some ⟨g, 0, none⟩), .int .i64 m, .int .u32 a] w fun e w' => e = .returned (.int .i64 2) ∧ w = w' := by
  have Hm := Lib.hid hm; clear hm
  go_enter Try.func10, Try.ntmps10
  go_wp2_with fail
  refine (can_any m _).mono ?_
  rw [Hm.out]
  rintro e w' ⟨rfl, rfl⟩
  go_wp2
  go_ret
  exact ⟨rfl, rfl⟩
def St.sets (r : St) (m a : Nat) : St := { r with most := m, accm := a }
theorem sets_inv {r : St} (h : Inv r) {m a : Nat} (h1 : 2 ≤ m) (h2 : m ≤ 1508) (ha : a < 4294967296) : Inv (r.sets m a) := ⟨h.1, h.2.1, h1, h2, ha⟩
def SetP (n₀ g : Nat) (r : St) (v : Value) (m a : Nat) (w : World) (e : Ending) (w' : World) : Prop := e = .returned (.int .i64 0) ∧ Recv w' n₀ g (r.sets m a) v ∧ Moves (Foot g v) w w'
set_option maxHeartbeats 400000 in
theorem set_yes (n₀ g : Nat) (r : St) (v : Value) (m a : Nat) (w : World) (hR : Recv w n₀ g r v) (h1 : 2 ≤ m) (h2 : m ≤ 1508) : Calls Try.prog 10 #[.pointer (some ⟨g, 0, none⟩), .int .i64 m, .int .u32 a] w (SetP n₀ g r v m a w) := by
  have Hm := Lib.hid (may_yes (m := (m : Int)) (by omega) (by omega))
  have HR := Lib.hid hR
  have hc5 : w.cell? ⟨g, 5, none⟩ = some (.int .i64 r.most) := (cellR hR.2.1 5).1
  have hf5 := (cellR hR.2.1 5).2
  have hc6 : w.cell? ⟨g, 6, none⟩ = some (.int .u32 r.accm) := (cellR hR.2.1 6).1
  have hf6 := (cellR hR.2.1 6).2
  clear hR
  go_enter Try.func10, Try.ntmps10
  go_wp2_with fail
  refine (can_any m _).mono ?_
  rw [Hm.out]
  rintro e w' ⟨rfl, rfl⟩
  go_wp2
  go_ret
  refine ⟨rfl, ?_, ((Moves.refl _ _).setCell ⟨g, 5, none⟩ (fun _ => .inl rfl) _).setCell ⟨g, 6, none⟩ (fun _ => .inl rfl) _⟩
  exact (HR.out.put (r' := { r with most := m }) 5 (.int .i64 m) rfl rfl).put (r' := r.sets m a) 6 (.int .u32 a) rfl rfl
end Go.Proofs.Ytfcmpnfdgfdclaa.Hdl
