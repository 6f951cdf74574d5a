/- The automaton in memory; its getters; what its actions do to it. -/
import Derived.Test.YtkabjdejljdbiaaAutPure
import Derived.Carry
namespace Go.Proofs.Ytkabjdejljdbiaa.Aut
open Go.RowKit Go.Proofs.Ytkabjdejljdbiaa.Oct Go.Proofs.Ytkabjdejljdbiaa.Row Go.Proofs.Ytkabjdejljdbiaa.Mem Go.Proofs.Ytkabjdejljdbiaa.Fsm

/-- An automaton of the program in block g. -/
def Aut (w : World) (g : Nat) (x : Au) : Prop := Blk w g (av x) 52
theorem Aut.lt {w : World} {g : Nat} {x : Au} (h : Aut w g x) : g < w.heap.size := Blk.lt h
theorem Aut.c {w : World} {g : Nat} {x : Au} (h : Aut w g x) (i : Nat) : w.cell? ⟨g, i, none⟩ = (av x)[i]? := Blk.at_ h i
theorem Aut.f {w : World} {g : Nat} {x : Au} (h : Aut w g x) (i : Nat) : w.frozen? ⟨g, i, none⟩ = false := Blk.frozen h i
theorem Aut.moves {S : Nat → Prop} {w w' : World} {g : Nat} {x : Au} (h : Aut w g x) (hm : Moves S w w') (hs : ¬ S g) : Aut w' g x := Blk.moves h hm hs
theorem Aut.callee {w w' : World} {g : Nat} {x : Au} (h : Aut w g x) (hb : Below w.heap.size w w') : Aut w' g x := Blk.callee h hb
theorem Aut.alloc {w : World} {g : Nat} {x : Au} (h : Aut w g x) (o : Obj) : Aut (w.alloc o) g x := Blk.alloc h o
theorem Aut.setC {w : World} {g : Nat} {x : Au} (h : Aut w g x) (n : Nat) : Aut (w.setCell ⟨g, 4, none⟩ (.int .i64 n)) g { x with c := n } := Blk.set h 4 (.int .i64 n)
theorem Aut.setL {w : World} {g : Nat} {x : Au} (h : Aut w g x) (n : Nat) : Aut (w.setCell ⟨g, 5, none⟩ (.int .i64 n)) g { x with l := n } := Blk.set h 5 (.int .i64 n)
theorem Aut.setS {w : World} {g : Nat} {x : Au} (h : Aut w g x) (n : Nat) : Aut (w.setCell ⟨g, 3, none⟩ (.int .u8 n)) g { x with s := n } := Blk.set h 3 (.int .u8 n)

/-! ### getters -/
set_option maxHeartbeats 400000 in
theorem state_any (g : Nat) (x : Au) (w : World) (h : Aut w g x) : Calls Try.prog 10 #[.pointer (some ⟨g, 0, none⟩)] w fun e w' => e = .returned (.int .u8 x.s) ∧ w = w' := by
  have c3 : w.cell? ⟨g, 3, none⟩ = some (.int .u8 x.s) := h.c 3
  clear h
  go_enter Try.func10, Try.ntmps10
  go_wp2
  go_ret
  exact ⟨rfl, rfl⟩
set_option maxHeartbeats 400000 in
theorem counter_any (g : Nat) (x : Au) (w : World) (h : Aut w g x) : Calls Try.prog 11 #[.pointer (some ⟨g, 0, none⟩)] w fun e w' => e = .returned (.int .i64 x.c) ∧ w = w' := by
  have c3 : w.cell? ⟨g, 4, none⟩ = some (.int .i64 x.c) := h.c 4
  clear h
  go_enter Try.func11, Try.ntmps11
  go_wp2
  go_ret
  exact ⟨rfl, rfl⟩
set_option maxHeartbeats 400000 in
theorem left_any (g : Nat) (x : Au) (w : World) (h : Aut w g x) : Calls Try.prog 12 #[.pointer (some ⟨g, 0, none⟩)] w fun e w' => e = .returned (.int .i64 x.l) ∧ w = w' := by
  have c3 : w.cell? ⟨g, 5, none⟩ = some (.int .i64 x.l) := h.c 5
  clear h
  go_enter Try.func12, Try.ntmps12
  go_wp2
  go_ret
  exact ⟨rfl, rfl⟩
set_option maxHeartbeats 400000 in
theorem expiry_any (g : Nat) (x : Au) (w : World) (h : Aut w g x) : Calls Try.prog 22 #[.pointer (some ⟨g, 0, none⟩)] w fun e w' => e = .returned (.int .u8 (tev x)) ∧ w = w' := by
  have c3 : w.cell? ⟨g, 4, none⟩ = some (.int .i64 x.c) := h.c 4
  clear h
  unfold tev
  by_cases h0 : x.c = 0
  · rw [if_pos h0]
    rw [h0] at c3
    clear h0
    go_enter Try.func22, Try.ntmps22
    go_wp2
    go_ret
    exact ⟨rfl, rfl⟩
  · rw [if_neg h0]
    have h1 : (0 : Int) < (x.c : Int) := by omega
    clear h0
    go_enter Try.func22, Try.ntmps22
    go_wp2
    go_ret
    exact ⟨rfl, rfl⟩

/-! ### nil -/
theorem nil_any (w : World) : Calls Try.prog 10 #[.pointer none] w (fun e w' => e = .returned (.int .u8 0) ∧ w = w')
    ∧ Calls Try.prog 11 #[.pointer none] w (fun e w' => e = .returned (.int .i64 0) ∧ w = w')
    ∧ Calls Try.prog 12 #[.pointer none] w (fun e w' => e = .returned (.int .i64 0) ∧ w = w')
    ∧ Calls Try.prog 13 #[.pointer none] w (fun e w' => e = .returned (.pointer none) ∧ w = w')
    ∧ Calls Try.prog 9 #[.pointer none] w (fun e w' => e = .returned (.tuple #[.int .u16 0, .bool false]) ∧ w = w')
    ∧ ∀ v : Nat, Calls Try.prog 8 #[.pointer none, .int .u8 v] w (fun e w' => e = .returned (.tuple #[.int .u16 0, .int .i64 1]) ∧ w = w') := by
  refine ⟨?_, ?_, ?_, ?_, ?_, fun v => ?_⟩
  · go_enter Try.func10, Try.ntmps10
    go_wp2
    go_ret
    exact ⟨rfl, rfl⟩
  · go_enter Try.func11, Try.ntmps11
    go_wp2
    go_ret
    exact ⟨rfl, rfl⟩
  · go_enter Try.func12, Try.ntmps12
    go_wp2
    go_ret
    exact ⟨rfl, rfl⟩
  · go_enter Try.func13, Try.ntmps13
    go_wp2
    go_ret
    exact ⟨rfl, rfl⟩
  · go_enter Try.func9, Try.ntmps9
    go_wp2
    go_ret2
    exact ⟨rfl, rfl⟩
  · go_enter Try.func8, Try.ntmps8
    go_wp2
    go_ret2
    exact ⟨rfl, rfl⟩

/-! ### actions -/
def EffP (g set a : Nat) (x : Au) (w : World) (e : Ending) (w' : World) : Prop := e = .returned (.tuple #[]) ∧ Aut w' g (eff set a x) ∧ Moves (fun k => k = g) w w'
theorem set_moves (w : World) (g i : Nat) (v : Value) : Moves (fun k => k = g) w (w.setCell ⟨g, i, none⟩ v) := ⟨rfl, rfl, rfl, by simp [World.setCell], fun k _ hk => Below.heap_setCell _ _ _ _ hk⟩
set_option maxHeartbeats 1000000 in
theorem zero_any (g set : Nat) (x : Au) (w : World) (h : Aut w g x) : Calls Try.prog 33 #[.pointer (some ⟨g, 0, none⟩), .int .u16 set] w (EffP g set 32 x w) := by
  have c0 : w.cell? ⟨g, 0, none⟩ = some (.int .i64 x.r) := h.c 0
  have c4 : w.cell? ⟨g, 4, none⟩ = some (.int .i64 x.c) := h.c 4
  have c5 : w.cell? ⟨g, 5, none⟩ = some (.int .i64 x.l) := h.c 5
  have f4 := h.f 4
  have f5 := h.f 5
  have H := Lib.hid h
  clear h
  go_enter Try.func33, Try.ntmps33
  go_wp2
  go_end0
  exact ⟨rfl, (H.out.setC 0).setL x.r, (set_moves _ _ _ _).trans (set_moves _ _ _ _) (fun _ _ h => h)⟩
set_option maxHeartbeats 1000000 in
theorem count_any (g set a : Nat) (x : Au) (w : World) (h : Aut w g x) (ha : a = 64 ∨ a = 512) (hc : x.c ≤ 20) : Calls Try.prog 34 #[.pointer (some ⟨g, 0, none⟩), .int .u16 set] w (EffP g set a x w) := by
  have c0 : w.cell? ⟨g, 0, none⟩ = some (.int .i64 x.r) := h.c 0
  have c4 : w.cell? ⟨g, 4, none⟩ = some (.int .i64 x.c) := h.c 4
  have c5 : w.cell? ⟨g, 5, none⟩ = some (.int .i64 x.l) := h.c 5
  have f4 := h.f 4
  have f5 := h.f 5
  have H := Lib.hid h
  have HE : Hid (eff set a x = { x with c := x.c - 1, l := x.r }) := by
    show _ = _
    rcases ha with rfl | rfl <;> rfl
  have hc1 : (x.c : Int) ≤ 20 := by omega
  have hc0 : (0 : Int) ≤ (x.c : Int) := Int.natCast_nonneg _
  clear h ha hc
  go_enter Try.func34, Try.ntmps34
  go_wp2
  all_goals go_end0
  all_goals unfold EffP
  all_goals rw [HE.out]
  · have e : x.c - 1 = 0 := by omega
    rw [e]
    exact ⟨rfl, (H.out.setC 0).setL x.r, (set_moves _ _ _ _).trans (set_moves _ _ _ _) (fun _ _ h => h)⟩
  · have e : (x.c : Int) - 1 = ((x.c - 1 : Nat) : Int) := by omega
    rw [e]
    exact ⟨rfl, (H.out.setC (x.c - 1)).setL x.r, (set_moves _ _ _ _).trans (set_moves _ _ _ _) (fun _ _ h => h)⟩
set_option maxHeartbeats 1000000 in
theorem init_any (g set : Nat) (x : Au) (w : World) (h : Aut w g x) (hs : set < 65536) : Calls Try.prog 32 #[.pointer (some ⟨g, 0, none⟩), .int .u16 set] w (EffP g set 16 x w) := by
  have c1 : w.cell? ⟨g, 1, none⟩ = some (.int .i64 x.mc) := h.c 1
  have c2 : w.cell? ⟨g, 2, none⟩ = some (.int .i64 x.mt) := h.c 2
  have c4 : w.cell? ⟨g, 4, none⟩ = some (.int .i64 x.c) := h.c 4
  have f4 := h.f 4
  have H := Lib.hid h
  have hb : (bits .and .u16 (set : Int) 512 != 0) = has set 512 := has_bits set 512 hs (by decide)
  cases h5 : has set 512
  · rw [h5] at hb
    have HE : Hid (eff set 16 x = { x with c := x.mc }) := by
      show _ = _
      unfold eff
      rw [h5]
      rfl
    clear h h5 hs
    go_enter Try.func32, Try.ntmps32
    go_wp2
    go_end0
    unfold EffP
    rw [HE.out]
    exact ⟨rfl, H.out.setC _, set_moves _ _ _ _⟩
  · rw [h5] at hb
    have HE : Hid (eff set 16 x = { x with c := x.mt }) := by
      show _ = _
      unfold eff
      rw [h5]
      rfl
    clear h h5 hs
    go_enter Try.func32, Try.ntmps32
    go_wp2
    go_end0
    unfold EffP
    rw [HE.out]
    exact ⟨rfl, (H.out.setC x.mc).setC x.mt, (set_moves _ _ _ _).trans (set_moves _ _ _ _) (fun _ _ h => h)⟩
end Go.Proofs.Ytkabjdejljdbiaa.Aut
